package files

import (
	"slices"

	"shale/api"
)

// allFlags has all flags that an opening may have.
const allFlags = api.OpenRead | api.OpenWrite | api.OpenCreate | api.OpenNew | api.OpenEmpty

// handle is open at a file; the zero one is not open.
type handle struct {
	file  int
	flags int
}

// Open opens a file.
func (d *Disk) Open(path string, flags, mode int) (int, api.Errno) {
	if e := d.mounted(); e != api.OK {
		return 0, e
	}
	if !flagsMayBe(flags) {
		return 0, api.ErrFlags
	}
	free := slices.Index(d.handles[:], handle{})
	if free < 0 {
		return 0, api.ErrMany
	}
	id, e := d.toOpen(path, flags, mode)
	if e != api.OK {
		return 0, e
	}
	d.handles[free] = handle{file: id, flags: flags}
	return free + 1, api.OK
}

func flagsMayBe(flags int) bool {
	has := func(flag int) bool { return flags&flag != 0 }
	switch {
	case flags < 0 || flags > allFlags:
		return false
	case !has(api.OpenRead) && !has(api.OpenWrite):
		return false
	case has(api.OpenNew) && !has(api.OpenCreate):
		return false
	}
	return !has(api.OpenEmpty) || has(api.OpenWrite)
}

// toOpen tells the file that is to be opened, made or emptied as the flags want it.
func (d *Disk) toOpen(path string, flags, mode int) (int, api.Errno) {
	id, e := d.foundOrMade(path, flags, mode)
	if e != api.OK {
		return 0, e
	}
	n, e := d.volume.Node(id)
	switch {
	case e != api.OK:
		return 0, e
	case n.Type == api.TypeDir:
		return 0, api.ErrIsDir
	case flags&api.OpenEmpty == 0:
		return id, api.OK
	}
	if e := d.volume.Cut(id, 0); e != api.OK {
		return 0, e
	}
	return id, api.OK
}

func (d *Disk) foundOrMade(path string, flags, mode int) (int, api.Errno) {
	if flags&api.OpenCreate == 0 {
		return d.through(path)
	}
	to, e := d.place(path)
	switch {
	case e != api.OK:
		return 0, e
	case to.id == 0:
		return d.makeAt(to, api.Node{Type: api.TypeFile, Mode: mode})
	case flags&api.OpenNew != 0:
		return 0, api.ErrExists
	}
	return d.through(path)
}

// opened tells the handle of a number, which was opened for all that these flags say.
func (d *Disk) opened(h, flags int) (handle, api.Errno) {
	if e := d.mounted(); e != api.OK {
		return handle{}, e
	}
	if h < 1 || h > len(d.handles) || d.handles[h-1] == (handle{}) {
		return handle{}, api.ErrHandle
	}
	x := d.handles[h-1]
	if x.flags&flags != flags {
		return handle{}, api.ErrMode
	}
	return x, api.OK
}

// Close closes a handle.
func (d *Disk) Close(h int) api.Errno {
	x, e := d.opened(h, 0)
	if e != api.OK {
		return e
	}
	d.handles[h-1] = handle{}
	d.letGo(x.file)
	return api.OK
}

// letGo takes an object away that has no name any more, unless a handle is open at it.
func (d *Disk) letGo(id int) {
	if slices.ContainsFunc(d.handles[:], func(x handle) bool { return x.file == id }) {
		return
	}
	d.volume.Forget(id) // it refuses what has a name
}

// Read tells bytes of a file.
func (d *Disk) Read(h, at, n int) ([]byte, api.Errno) {
	x, e := d.opened(h, api.OpenRead)
	if e != api.OK {
		return nil, e
	}
	return d.volume.Read(x.file, at, n)
}

// Write writes bytes, and tells how many were written.
func (d *Disk) Write(h, at int, b []byte) (int, api.Errno) {
	x, e := d.opened(h, api.OpenWrite)
	if e != api.OK {
		return 0, e
	}
	return d.volume.Write(x.file, at, b)
}

// Truncate makes a file shorter or longer.
func (d *Disk) Truncate(h, size int) api.Errno {
	x, e := d.opened(h, api.OpenWrite)
	if e != api.OK {
		return e
	}
	return d.volume.Cut(x.file, size)
}
