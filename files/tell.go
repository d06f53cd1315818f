package files

import "shale/api"

// Target tells where a link leads.
func (d *Disk) Target(path string) (string, api.Errno) {
	id, e := d.upTo(path)
	if e != api.OK {
		return "", e
	}
	n, e := d.volume.Node(id)
	switch {
	case e != api.OK:
		return "", e
	case n.Type != api.TypeLink:
		return "", api.ErrType
	}
	return n.Target, api.OK
}

// List tells a directory's entries, by name.
func (d *Disk) List(path string) ([]api.Entry, api.Errno) {
	id, e := d.through(path)
	if e != api.OK {
		return nil, e
	}
	return d.volume.List(id)
}

// Stat tells of what a path leads to.
func (d *Disk) Stat(path string) (api.Stat, api.Errno) { return d.stat(d.through(path)) }

// Look tells of a path's object, if it is a link, of the link.
func (d *Disk) Look(path string) (api.Stat, api.Errno) { return d.stat(d.upTo(path)) }

// stat tells of what a walk has come to.
func (d *Disk) stat(id int, e api.Errno) (api.Stat, api.Errno) {
	if e != api.OK {
		return api.Stat{}, e
	}
	n, e := d.volume.Node(id)
	if e != api.OK {
		return api.Stat{}, e
	}
	return api.Stat{Id: id, Type: n.Type, Size: n.Size, Mode: n.Mode, Stamp: n.Stamp}, api.OK
}

// Chmod sets a mode.
func (d *Disk) Chmod(path string, mode int) api.Errno {
	s, e := d.Stat(path)
	if e != api.OK {
		return e
	}
	return d.volume.Set(s.Id, mode, s.Stamp)
}

// Touch sets a stamp.
func (d *Disk) Touch(path string, stamp uint64) api.Errno {
	s, e := d.Stat(path)
	if e != api.OK {
		return e
	}
	return d.volume.Set(s.Id, s.Mode, stamp)
}
