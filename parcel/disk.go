package parcel

import (
	"slices"
	"strings"

	"shale/api"
	"shale/files"
	"shale/path"
)

// Store tells what lies below a directory as bytes.
func Store(d *files.Disk, dir string) ([]byte, api.Errno) {
	dir, _, e := cleaned(dir)
	if e != api.OK {
		return nil, e
	}
	tree, e := d.Tree()
	if e != api.OK {
		return nil, e
	}
	at := slices.IndexFunc(tree, func(leaf api.Leaf) bool { return leaf.Path == dir })
	switch {
	case at < 0:
		return nil, api.ErrMissing
	case tree[at].Type != api.TypeDir:
		return nil, api.ErrNotDir
	}
	return Pack(seenFrom(dir, tree[at:]))
}

// cleaned tells a path without needless parts, and its names. By .. no text can tell where it leads.
func cleaned(p string) (string, []string, api.Errno) {
	clean, e := path.Clean(p)
	if e != api.OK {
		return "", nil, e
	}
	names, e := path.Split(clean)
	if e == api.OK && slices.Contains(names, up) {
		e = api.ErrPath
	}
	return clean, names, e
}

// seenFrom tells the leaves that are a directory's or lie below it, as if it were the root.
func seenFrom(dir string, tree []api.Leaf) []api.Leaf {
	var list []api.Leaf
	for _, leaf := range tree {
		if is, _ := path.Within(leaf.Path, dir); is {
			leaf.Path = root + strings.TrimPrefix(strings.TrimPrefix(leaf.Path, dir), root)
			list = append(list, leaf)
		}
	}
	return list
}

// Take lays a tree out below a directory, and tells how many of its leaves.
func Take(d *files.Disk, dir string, b []byte) (int, api.Errno) {
	list, e := opened(b)
	if e != api.OK {
		return 0, e
	}
	_, above, e := cleaned(dir)
	if e != api.OK {
		return 0, e
	}
	ways := layer{disk: d}.ways()
	for n, p := range list[1:] {
		place, e := path.Join(slices.Concat(above, p.names)...)
		if e == api.OK {
			e = ways[p.leaf.Type](place, p)
		}
		if e != api.OK {
			return n, e
		}
	}
	return len(list) - 1, api.OK
}

// layer lays leaves out on a disk.
type layer struct{ disk *files.Disk }

// ways tells, by a leaf's type, what lays it out.
func (l layer) ways() [api.TypeLink + 1]func(place string, p piece) api.Errno {
	return [...]func(place string, p piece) api.Errno{
		api.TypeFile: l.file,
		api.TypeDir:  l.dir,
		api.TypeLink: l.link,
	}
}

func (l layer) dir(place string, p piece) api.Errno {
	if e := l.disk.Mkdir(place, p.leaf.Mode); e != api.OK {
		return e
	}
	return l.touch(place, p.leaf.Stamp)
}

func (l layer) touch(place string, stamp uint64) api.Errno {
	if stamp == 0 {
		return api.OK // what was just made has it
	}
	return l.disk.Touch(place, stamp)
}

func (l layer) file(place string, p piece) api.Errno {
	h, e := l.disk.Open(place, api.OpenWrite|api.OpenCreate|api.OpenNew, p.leaf.Mode)
	if e != api.OK {
		return e
	}
	e = l.fill(h, p)
	if closed := l.disk.Close(h); e == api.OK {
		e = closed
	}
	if e != api.OK {
		return e
	}
	return l.touch(place, p.leaf.Stamp)
}

// fill writes what is filled; the rest is never written, so that it takes no page.
func (l layer) fill(h int, p piece) api.Errno {
	end := 0
	for _, s := range p.filled {
		if _, e := l.disk.Write(h, s.at, s.bytes); e != api.OK {
			return e
		}
		end = s.at + s.size
	}
	if end == p.size {
		return api.OK
	}
	return l.disk.Truncate(h, p.size)
}

func (l layer) link(place string, p piece) api.Errno { return l.disk.Link(place, p.leaf.Target) }
