package audit

import "shale/api"

// entry is by what an object is found in the tree.
type entry struct {
	parent int
	name   string
}

// objectFindings tells what is found of objects, which come by rising numbers.
func objectFindings(objects []api.Object) []api.Finding {
	var list []api.Finding
	reached := reachable(objects)
	taken := map[entry]struct{}{}
	found := func(kind, id int) { list = append(list, api.Finding{Kind: kind, Object: id}) }
	for _, o := range objects {
		if !o.Head {
			found(api.FoundPhantom, o.Id)
			continue
		}
		if o.Node.Parent == 0 {
			found(api.FoundLink, o.Id)
			continue
		}
		if _, is := reached[o.Id]; !is {
			found(api.FoundLost, o.Id)
		}
		own := entry{parent: o.Node.Parent, name: o.Node.Name}
		if _, is := taken[own]; is {
			found(api.FoundTwice, o.Id)
		}
		taken[own] = struct{}{}
	}
	return list
}

// reachable tells the objects to which directories lead from the root on. (From the root down each is met once, however long the ways are, and circles are not met at all.)
func reachable(objects []api.Object) map[int]struct{} {
	below := map[int][]api.Object{}
	for _, o := range objects {
		below[o.Node.Parent] = append(below[o.Node.Parent], o) // what is loose has the parent 0, to which nothing leads
	}
	reached := map[int]struct{}{}
	directories := []int{api.Root}
	for len(directories) > 0 {
		last := len(directories) - 1
		at := directories[last]
		directories = directories[:last]
		for _, o := range below[at] {
			reached[o.Id] = struct{}{}
			if o.Node.Type == api.TypeDir {
				directories = append(directories, o.Id)
			}
		}
	}
	return reached
}
