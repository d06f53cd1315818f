package files

import (
	"iter"
	"math"
	"slices"

	"shale/api"
	"shale/path"
)

const linkMode = 511

// Mkdir makes a directory.
func (d *Disk) Mkdir(path string, mode int) api.Errno {
	return d.makes(path, api.Node{Type: api.TypeDir, Mode: mode})
}

// Link makes a link that leads to a path.
func (d *Disk) Link(path, target string) api.Errno {
	return d.makes(path, api.Node{Type: api.TypeLink, Mode: linkMode, Target: target})
}

func (d *Disk) makes(p string, n api.Node) api.Errno {
	to, e := d.place(p)
	if e != api.OK {
		return e
	}
	_, e = d.makeAt(to, n)
	return e
}

// makeAt makes an object at a place, if its true path fits.
func (d *Disk) makeAt(to place, n api.Node) (int, api.Errno) {
	if _, e := path.Join(d.names(to)...); e != api.OK {
		return 0, e
	}
	n.Parent, n.Name = to.dir, to.name
	return d.volume.Make(n)
}

// Rmdir takes an empty directory away.
func (d *Disk) Rmdir(path string) api.Errno {
	id, n, e := d.present(path)
	switch {
	case e != api.OK:
		return e
	case n.Type != api.TypeDir:
		return api.ErrNotDir
	}
	return d.unlink(id)
}

// Unlink takes a file or a link away.
func (d *Disk) Unlink(path string) api.Errno {
	id, n, e := d.present(path)
	switch {
	case e != api.OK:
		return e
	case n.Type == api.TypeDir:
		return api.ErrIsDir
	}
	return d.unlink(id)
}

// present tells what is at the place of a path.
func (d *Disk) present(p string) (int, api.Node, api.Errno) {
	at, e := d.place(p)
	switch {
	case e != api.OK:
		return 0, api.Node{}, e
	case at.id == 0:
		return 0, api.Node{}, api.ErrMissing
	}
	n, e := d.volume.Node(at.id)
	return at.id, n, e
}

func (d *Disk) unlink(id int) api.Errno {
	if e := d.volume.Unlink(id); e != api.OK {
		return e
	}
	d.letGo(id)
	return api.OK
}

// Rename gives something another path, in the place of what is there.
func (d *Disk) Rename(from, to string) api.Errno {
	old, e := d.place(from)
	if e != api.OK {
		return e
	}
	next, e := d.place(to)
	switch {
	case e != api.OK:
		return e
	case old.id == 0:
		return api.ErrMissing
	case !d.fitsAt(old.id, next):
		return api.ErrLong
	}
	if e := d.volume.Move(old.id, next.dir, next.name); e != api.OK {
		return e
	}
	if next.id != 0 && next.id != old.id {
		d.letGo(next.id)
	}
	return api.OK
}

// fitsAt tells whether an object's true path, and those of all below it, would fit if it lay at a place.
func (d *Disk) fitsAt(id int, to place) bool {
	for _, leaf := range d.leaves(id, d.names(to)) {
		if leaf.Path == "" {
			return false
		}
	}
	return true
}

// leaves goes through an object and all that lies below it, as it would be found if the way to it had these names: by number, the leaf without its data. The Path is empty where it does not fit; what lies below that is left out.
func (d *Disk) leaves(id int, names []string) iter.Seq2[int, api.Leaf] {
	return func(yield func(int, api.Leaf) bool) {
		leaf := d.leaf(id, names)
		if !yield(id, leaf) || leaf.Path == "" || leaf.Type != api.TypeDir {
			return
		}
		entries, _ := d.volume.List(id) // it is a directory that has a name
		for _, x := range entries {
			for below, leaf := range d.leaves(x.Id, append(slices.Clip(names), x.Name)) {
				if !yield(below, leaf) {
					return
				}
			}
		}
	}
}

func (d *Disk) leaf(id int, names []string) api.Leaf {
	n, _ := d.volume.Node(id)
	p, _ := path.Join(names...)
	return api.Leaf{Path: p, Type: n.Type, Mode: n.Mode, Stamp: n.Stamp, Target: n.Target}
}

// Tree tells the whole tree.
func (d *Disk) Tree() ([]api.Leaf, api.Errno) {
	if e := d.mounted(); e != api.OK {
		return nil, e
	}
	var list []api.Leaf
	for id, leaf := range d.leaves(api.Root, nil) {
		if leaf.Path == "" {
			continue
		}
		if leaf.Type == api.TypeFile {
			data, e := d.volume.Read(id, 0, math.MaxInt)
			if e != api.OK {
				return nil, e
			}
			leaf.Data = data
		}
		list = append(list, leaf)
	}
	return list, api.OK
}
