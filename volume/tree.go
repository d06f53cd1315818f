package volume

import (
	"shale/api"
	"shale/node"
)

// Make makes an object.
func (v *Volume) Make(n api.Node) (int, api.Errno) {
	if e := v.mayMake(n); e != api.OK {
		return 0, e
	}
	id := v.Table().Fresh()
	if id > api.MaxObject {
		return 0, api.ErrSpace
	}
	if e := v.stepHeader(id, n); e != api.OK {
		return 0, e
	}
	return id, api.OK
}

// mayMake refuses a header that is no new object's, or whose place in the tree is none, or is taken.
func (v *Volume) mayMake(n api.Node) api.Errno {
	if n.Shadow != 0 || n.Size != 0 {
		return api.ErrNode
	}
	if e := node.Check(n); e != api.OK {
		return e
	}
	switch _, e := v.Find(n.Parent, n.Name); e {
	case api.OK:
		return api.ErrExists
	case api.ErrMissing:
		return api.OK
	default:
		return e
	}
}

// Move gives an object another directory and name, in the place of what has that name.
func (v *Volume) Move(id, parent int, name string) api.Errno {
	n, e := v.movable(id)
	if e != api.OK {
		return e
	}
	if e := v.mayComeTo(id, n, parent, name); e != api.OK {
		return e
	}
	other, there := v.Table().Find(parent, name)
	if other == id {
		return api.OK
	}
	if there {
		if e := v.mayReplace(n, other); e != api.OK {
			return e
		}
	}
	n.Parent, n.Name, n.Shadow = parent, name, other
	return v.stepHeader(id, n)
}

// movable tells the header of an object that can lose its name, or get another one.
func (v *Volume) movable(id int) (api.Node, api.Errno) {
	if id == api.Root {
		return api.Node{}, api.ErrRoot
	}
	return v.linked(id)
}

// mayComeTo refuses names and directories that are none, and those in which an object would lie in itself.
func (v *Volume) mayComeTo(id int, n api.Node, parent int, name string) api.Errno {
	if e := node.Name(name); e != api.OK {
		return e
	}
	if e := v.mayBeParent(parent); e != api.OK {
		return e
	}
	if n.Type == api.TypeDir && v.within(parent, id) {
		return api.ErrInto
	}
	return api.OK
}

// within tells whether one comes, from an object on, from parent to parent to a directory. What others have laid on a chip may go round.
func (v *Volume) within(at, dir int) bool {
	seen := map[int]struct{}{}
	for at != dir {
		if _, again := seen[at]; again {
			return false
		}
		seen[at] = struct{}{}
		n, e := v.Node(at)
		if e != api.OK {
			return false
		}
		at = n.Parent
	}
	return true
}

// mayReplace refuses to let an object come in the place of one of another sort, or of one that is still of use.
func (v *Volume) mayReplace(n api.Node, other int) api.Errno {
	old, e := v.Node(other)
	switch {
	case e != api.OK:
		return e
	case old.Type == api.TypeDir && n.Type != api.TypeDir:
		return api.ErrIsDir
	case old.Type != api.TypeDir && n.Type == api.TypeDir:
		return api.ErrNotDir
	}
	return v.mayGo(other, old)
}

// mayGo refuses to take a directory away in which something lies.
func (v *Volume) mayGo(id int, n api.Node) api.Errno {
	if n.Type != api.TypeDir {
		return api.OK
	}
	list, e := v.Table().List(id)
	if e == api.OK && len(list) > 0 {
		return api.ErrUsed
	}
	return e
}

// Unlink takes an object's name away.
func (v *Volume) Unlink(id int) api.Errno {
	n, e := v.movable(id)
	if e != api.OK {
		return e
	}
	if e := v.mayGo(id, n); e != api.OK {
		return e
	}
	n.Parent = 0
	return v.stepHeader(id, n)
}

// Set sets an object's mode and stamp.
func (v *Volume) Set(id, mode int, stamp uint64) api.Errno {
	if id == api.Root {
		return api.ErrRoot
	}
	n, e := v.Node(id)
	if e != api.OK {
		return e
	}
	if mode < 0 || mode > api.MaxMode {
		return api.ErrNode
	}
	if n.Mode == mode && n.Stamp == stamp {
		return api.OK
	}
	n.Mode, n.Stamp = mode, stamp
	return v.stepHeader(id, n)
}
