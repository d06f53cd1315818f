package files

import (
	"slices"

	"shale/api"
	"shale/path"
)

const up = ".." // the name by which one goes to a directory's own

// step goes from an object by a name; of a link it tells where that leads.
func (d *Disk) step(at int, name string) (int, string, bool, api.Errno) {
	n, e := d.volume.Node(at)
	switch {
	case e != api.OK:
		return 0, "", false, e
	case n.Type != api.TypeDir:
		return 0, "", false, api.ErrNotDir
	case name == up:
		return n.Parent, "", false, api.OK // the root's own is the root
	}
	id, e := d.volume.Find(at, name)
	if e != api.OK {
		return 0, "", false, e
	}
	n, e = d.volume.Node(id)
	return id, n.Target, n.Type == api.TypeLink, e
}

// through tells the object to which a path leads.
func (d *Disk) through(p string) (int, api.Errno) { return d.walk(p, true) }

// upTo tells the object of a path's last name, if that is a link, the link.
func (d *Disk) upTo(p string) (int, api.Errno) { return d.walk(p, false) }

func (d *Disk) walk(p string, last bool) (int, api.Errno) {
	if e := d.mounted(); e != api.OK {
		return 0, e
	}
	return path.Walk(api.Root, p, last, d.step)
}

// place is where a path's last name stands: a directory, the name, and what has this name there.
type place struct {
	dir  int
	name string
	id   int // 0: there is nothing
}

// place tells the place of a path.
func (d *Disk) place(p string) (place, api.Errno) {
	if e := d.mounted(); e != api.OK {
		return place{}, e
	}
	names, name, e := path.Parent(p)
	if e != api.OK {
		return place{}, e
	}
	front, e := path.Join(names...)
	if e != api.OK {
		return place{}, e
	}
	dir, e := d.through(front)
	if e != api.OK {
		return place{}, e
	}
	id, e := d.volume.Find(dir, name) // ErrNotDir, if that is none
	if e != api.OK && e != api.ErrMissing {
		return place{}, e
	}
	return place{dir: dir, name: name, id: id}, api.OK
}

// names tells the names on the way from the root to what lies, or would lie, at a place.
func (d *Disk) names(to place) []string {
	names := []string{to.name}
	for at := to.dir; at != api.Root; { // it ends: one came to the directory from the root on
		n, e := d.volume.Node(at)
		if e != api.OK {
			break
		}
		names = append(names, n.Name)
		at = n.Parent
	}
	slices.Reverse(names)
	return names
}
