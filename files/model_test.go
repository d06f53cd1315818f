package files

import (
	"bytes"
	"maps"
	"math/rand"
	"slices"
	"strings"

	"shale/api"
)

// model is a disk without a chip: the chapters 15 to 17 in the plainest words. It is never changed: each call tells others.
type model struct {
	c       int // bytes of a chunk
	things  map[int]thing
	handles map[int]grip
	closed  bool
}

// thing is an object: its header, a file's bytes, all of them, and which of its chunks have a page.
type thing struct {
	node  api.Node
	bytes string
	pages map[int]int // the chunks; each stands for itself
}

// grip is what a handle is open at, and for what.
type grip struct{ file, flags int }

func newModel(g api.Geometry) model {
	return model{c: 256 * g.Sectors, things: map[int]thing{}, handles: map[int]grip{}}
}

func (m model) copied() model {
	m.things, m.handles = maps.Clone(m.things), maps.Clone(m.handles)
	return m
}

func (m model) with(id int, o thing) model {
	next := m.copied()
	o.node.Size = len(o.bytes)
	o.pages = maps.Clone(o.pages)
	maps.DeleteFunc(o.pages, func(k, _ int) bool { return k*m.c >= len(o.bytes) })
	next.things[id] = o
	return next
}

// letGo is the model without an object that is unlinked and at which no handle is open.
func (m model) letGo(id int) model {
	next := m.copied()
	for _, g := range m.handles {
		if g.file == id {
			return next
		}
	}
	if m.things[id].node.Parent == 0 {
		delete(next.things, id)
	}
	return next
}

// nextLife is what a mount shows: no handles, and nothing that is unlinked.
func (m model) nextLife() model {
	next := m.copied()
	next.closed = false
	clear(next.handles)
	maps.DeleteFunc(next.things, func(_ int, o thing) bool { return o.node.Parent == 0 })
	return next
}

// live tells how many pages are current.
func (m model) live() int {
	n := len(m.things)
	for _, o := range m.things {
		n += len(o.pages)
	}
	return n
}

func (m model) node(id int) api.Node {
	if id == 1 {
		return api.Node{Type: api.TypeDir, Parent: 1, Mode: 493}
	}
	return m.things[id].node
}

func (m model) ids() []int { return slices.Sorted(maps.Keys(m.things)) }

// in tells what lies in a directory, by rising name.
func (m model) in(parent int) []int {
	list := slices.DeleteFunc(m.ids(), func(id int) bool { return m.things[id].node.Parent != parent })
	slices.SortFunc(list, func(a, b int) int { return strings.Compare(m.things[a].node.Name, m.things[b].node.Name) })
	return list
}

func (m model) find(parent int, name string) int {
	for _, id := range m.in(parent) {
		if m.things[id].node.Name == name {
			return id
		}
	}
	return 0
}

// truePath tells an object's path from the root on, by Parents.
func (m model) truePath(id int) string {
	p := ""
	for ; id != 1; id = m.node(id).Parent {
		p = "/" + m.node(id).Name + p
	}
	return max(p, "/")
}

func fits(p string) bool { return len(p) <= 1023 && strings.Count(p, "/") <= 64 }

// leaves tells the tree from an object on.
func (m model) leaves(id int) []api.Leaf {
	n := m.node(id)
	list := []api.Leaf{{Path: m.truePath(id), Type: n.Type, Mode: n.Mode, Stamp: n.Stamp, Data: []byte(m.things[id].bytes), Target: n.Target}}
	for _, x := range m.in(id) {
		list = append(list, m.leaves(x)...)
	}
	return list
}

func sameTree(a, b []api.Leaf) bool {
	return slices.EqualFunc(a, b, func(x, y api.Leaf) bool {
		return x.Path == y.Path && x.Type == y.Type && x.Mode == y.Mode && x.Stamp == y.Stamp && x.Target == y.Target && bytes.Equal(x.Data, y.Data)
	})
}

// namesOf takes a path apart.
func namesOf(p string) ([]string, api.Errno) {
	if p == "" || p[0] != '/' || strings.Contains(p, "\x00") {
		return nil, api.ErrPath
	}
	var names []string
	long := len(p) > 1023
	for part := range strings.SplitSeq(p, "/") {
		if part != "" && part != "." {
			names = append(names, part)
		}
		long = long || len(part) > 63
	}
	if long || len(names) > 64 {
		return nil, api.ErrLong
	}
	return names, api.OK
}

// follows tells where names lead from an object on, so many links having been followed already.
func (m model) follows(at int, names []string, last bool, links int) (int, api.Errno) {
	if len(names) == 0 {
		return at, api.OK
	}
	if m.node(at).Type != api.TypeDir {
		return 0, api.ErrNotDir
	}
	if names[0] == ".." {
		return m.follows(m.node(at).Parent, names[1:], last, links)
	}
	id := m.find(at, names[0])
	if id == 0 {
		return 0, api.ErrMissing
	}
	target := m.node(id).Target
	if target == "" || len(names) == 1 && !last {
		return m.follows(id, names[1:], last, links)
	}
	if links == 8 {
		return 0, api.ErrLoop
	}
	if target[0] == '/' {
		at = 1
	}
	first, e := namesOf("/" + target)
	if e != api.OK {
		return 0, e
	}
	if len(first)+len(names)-1 > 64 {
		return 0, api.ErrLong
	}
	return m.follows(at, slices.Concat(first, names[1:]), last, links+1)
}

func (m model) walk(p string, last bool) (int, api.Errno) {
	names, e := namesOf(p)
	if e != api.OK {
		return 0, e
	}
	return m.follows(1, names, last, 0)
}

// spot is the place of a path: the directory, the name, and what is there, or 0.
func (m model) spot(p string) (int, string, int, api.Errno) {
	names, e := namesOf(p)
	if e != api.OK {
		return 0, "", 0, e
	}
	end := len(names) - 1
	if end < 0 || names[end] == ".." {
		return 0, "", 0, api.ErrPath
	}
	dir, e := m.follows(1, names[:end], true, 0)
	if e != api.OK {
		return 0, "", 0, e
	}
	if m.node(dir).Type != api.TypeDir {
		return 0, "", 0, api.ErrNotDir
	}
	return dir, names[end], m.find(dir, names[end]), api.OK
}

// change is what a call should come to: its answer, if all steps are done; of each step whether it needs a page more; and how it stands ahead of each and behind the last one, with the number that is told if the next step is not done.
type change struct {
	api.Reply
	grows  []bool
	states []model
	told   []int
	reads  bool // a page has to be read ahead of all else
}

func (x *change) step(grows bool, behind model, told int) {
	x.grows = append(x.grows, grows)
	x.states = append(x.states, behind)
	x.told = append(x.told, told)
}

// becomes: this is how it stands without a step, or behind the last one.
func (x *change) becomes(m model) { x.states[len(x.states)-1] = m }

func sameReply(a, b api.Reply) bool {
	return a.E == b.E && a.Number == b.Number && bytes.Equal(a.Data, b.Data) && a.Text == b.Text && a.Stat == b.Stat && slices.Equal(a.Entries, b.Entries) && a.Usage == b.Usage
}

// do tells what a call should come to. (Of the usage the pages alone are known here.)
func (m model) do(c api.Call) change {
	x := change{states: []model{m}, told: []int{0}}
	if m.closed {
		x.E = api.ErrClosed
		return x
	}
	switch c.Op {
	case api.CallOpen:
		m.open(&x, c)
	case api.CallClose, api.CallRead, api.CallWrite, api.CallTruncate:
		m.byHandle(&x, c)
	case api.CallMkdir, api.CallLink:
		m.makes(&x, c)
	case api.CallRmdir, api.CallUnlink:
		m.unlink(&x, c)
	case api.CallRename:
		m.rename(&x, c)
	case api.CallTarget, api.CallList, api.CallStat, api.CallLook:
		m.tell(&x, c)
	case api.CallChmod, api.CallTouch:
		m.set(&x, c)
	case api.CallUsage:
		x.Usage.Live = m.live()
	case api.CallUnmount:
		next := m.nextLife()
		next.closed = true
		x.becomes(next)
	}
	return x
}

func (m model) fresh() int {
	id := 2
	for _, there := m.things[id]; there; _, there = m.things[id] {
		id++
	}
	return id
}

// make makes an object in a directory, where nothing has its name; it tells its number.
func (m model) make(x *change, n api.Node) int {
	way := strings.TrimSuffix(m.truePath(n.Parent), "/") + "/" + n.Name
	long := n.Type == api.TypeLink && (len(n.Target) < 1 || len(n.Target) > 127 || strings.Contains(n.Target, "\x00"))
	switch {
	case !fits(way):
		x.E = api.ErrLong
	case n.Mode < 0 || n.Mode > 4095:
		x.E = api.ErrNode
	case long:
		x.E = api.ErrTarget
	case m.find(n.Parent, n.Name) != 0:
		x.E = api.ErrExists
	default:
		id := m.fresh()
		x.step(true, m.with(id, thing{node: n, pages: map[int]int{}}), 0)
		return id
	}
	return 0
}

func (m model) makes(x *change, c api.Call) {
	dir, name, _, e := m.spot(c.Path)
	if x.E = e; e != api.OK {
		return
	}
	n := api.Node{Type: api.TypeDir, Parent: dir, Name: name, Mode: c.Mode}
	if c.Op == api.CallLink {
		n.Type, n.Mode, n.Target = api.TypeLink, 511, c.To
	}
	m.make(x, n)
}

func (m model) open(x *change, c api.Call) {
	has := func(f int) bool { return c.Flags&f != 0 }
	if c.Flags < 0 || c.Flags > 31 || !has(1) && !has(2) || has(8) && !has(4) || has(16) && !has(2) {
		x.E = api.ErrFlags
		return
	}
	if len(m.handles) == 64 {
		x.E = api.ErrMany
		return
	}
	id := 0
	if has(4) {
		dir, name, there, e := m.spot(c.Path)
		if x.E = e; e != api.OK {
			return
		}
		if there == 0 {
			id = m.make(x, api.Node{Type: api.TypeFile, Parent: dir, Name: name, Mode: c.Mode})
		} else if has(8) {
			x.E = api.ErrExists
		}
		if x.E != api.OK {
			return
		}
	}
	if id == 0 {
		id, x.E = m.walk(c.Path, true)
		if x.E == api.OK && m.node(id).Type == api.TypeDir {
			x.E = api.ErrIsDir
		}
		if x.E != api.OK {
			return
		}
	}
	if has(16) {
		x.states[len(x.states)-1].cut(x, id, 0)
	}
	next := x.states[len(x.states)-1].copied()
	h := 1
	for _, there := next.handles[h]; there; _, there = next.handles[h] {
		h++
	}
	next.handles[h] = grip{id, c.Flags}
	x.becomes(next)
	x.Number = h
}

func (m model) byHandle(x *change, c api.Call) {
	g, there := m.handles[c.Handle]
	most := m.c << 20
	switch {
	case !there:
		x.E = api.ErrHandle
	case c.Op == api.CallClose:
		next := m.copied()
		delete(next.handles, c.Handle)
		x.becomes(next.letGo(g.file))
	case c.Op == api.CallRead && g.flags&1 == 0, c.Op != api.CallRead && g.flags&2 == 0:
		x.E = api.ErrMode
	case c.Op == api.CallRead && (c.At < 0 || c.Size < 0), c.Op == api.CallWrite && c.At < 0, c.Op == api.CallTruncate && c.Size < 0:
		x.E = api.ErrRange
	case c.Op == api.CallRead:
		m.read(x, g.file, c.At, c.Size)
	case c.Op == api.CallWrite && (c.At > most || len(c.Data) > most-c.At), c.Op == api.CallTruncate && c.Size > most:
		x.E = api.ErrBig
	case c.Op == api.CallWrite:
		m.write(x, g.file, c.At, string(c.Data))
	default:
		m.cut(x, g.file, c.Size)
	}
}

func (m model) read(x *change, id, at, n int) {
	o := m.things[id]
	for i := range len(o.bytes) {
		if i >= at && i-at < n {
			x.Data = append(x.Data, o.bytes[i])
			_, there := o.pages[i/m.c]
			x.reads = x.reads || there
		}
	}
}

func (m model) write(x *change, id, at int, data string) {
	_, x.reads = m.things[id].pages[at/m.c]
	x.reads = x.reads && data != ""
	for done := 0; done < len(data); {
		o := m.things[id]
		k := (at + done) / m.c
		n := min(len(data)-done, (k+1)*m.c-at-done)
		o.bytes = laid(o.bytes, at+done, data[done:done+n])
		_, there := o.pages[k]
		o.pages = maps.Clone(o.pages)
		o.pages[k] = k
		m = m.with(id, o)
		done += n
		x.step(!there, m, done)
	}
	x.Number = len(data)
}

// laid tells bytes with others laid over them, from a place on.
func laid(bytes string, at int, data string) string {
	for len(bytes) < at {
		bytes += "\x00"
	}
	tail := ""
	if len(bytes) > at+len(data) {
		tail = bytes[at+len(data):]
	}
	return bytes[:at] + data + tail
}

func (m model) cut(x *change, id, size int) {
	o := m.things[id]
	if size == len(o.bytes) {
		return
	}
	if _, there := o.pages[size/m.c]; there && size < len(o.bytes) && size%m.c != 0 {
		x.reads = true
	}
	for len(o.bytes) < size {
		o.bytes += "\x00"
	}
	o.bytes = o.bytes[:size]
	x.step(false, m.with(id, o), 0)
}

func (m model) unlink(x *change, c api.Call) {
	_, _, id, e := m.spot(c.Path)
	o := m.things[id]
	isDir := o.node.Type == api.TypeDir
	switch {
	case e != api.OK:
		x.E = e
	case id == 0:
		x.E = api.ErrMissing
	case c.Op == api.CallRmdir && !isDir:
		x.E = api.ErrNotDir
	case c.Op == api.CallUnlink && isDir:
		x.E = api.ErrIsDir
	case len(m.in(id)) > 0:
		x.E = api.ErrUsed
	default:
		o.node.Parent = 0
		x.step(false, m.with(id, o).letGo(id), 0)
	}
}

func (m model) rename(x *change, c api.Call) {
	_, _, id, e := m.spot(c.Path)
	dir, name, other, f := m.spot(c.To)
	switch {
	case e != api.OK:
		x.E = e
	case f != api.OK:
		x.E = f
	case id == 0:
		x.E = api.ErrMissing
	}
	if x.E != api.OK {
		return
	}
	o, t := m.things[id], m.things[other]
	old, way := m.truePath(id), strings.TrimSuffix(m.truePath(dir), "/")+"/"+name
	for _, leaf := range m.leaves(id) {
		if !fits(way + strings.TrimPrefix(leaf.Path, old)) {
			x.E = api.ErrLong
			return
		}
	}
	isDir, wasDir := o.node.Type == api.TypeDir, t.node.Type == api.TypeDir
	switch {
	case isDir && strings.HasPrefix(way, old+"/"):
		x.E = api.ErrInto
	case other == id:
	case other != 0 && wasDir && !isDir:
		x.E = api.ErrIsDir
	case other != 0 && isDir && !wasDir:
		x.E = api.ErrNotDir
	case other != 0 && len(m.in(other)) > 0:
		x.E = api.ErrUsed
	default:
		o.node.Parent, o.node.Name = dir, name
		if other != 0 {
			t.node.Parent = 0
			m = m.with(other, t).letGo(other)
		}
		x.step(false, m.with(id, o), 0)
	}
}

func (m model) tell(x *change, c api.Call) {
	id, e := m.walk(c.Path, c.Op == api.CallList || c.Op == api.CallStat)
	n := m.node(id)
	switch {
	case e != api.OK:
		x.E = e
	case c.Op == api.CallTarget && n.Type != api.TypeLink:
		x.E = api.ErrType
	case c.Op == api.CallTarget:
		x.Text = n.Target
	case c.Op == api.CallList && n.Type != api.TypeDir:
		x.E = api.ErrNotDir
	case c.Op == api.CallList:
		for _, y := range m.in(id) {
			x.Entries = append(x.Entries, api.Entry{Name: m.node(y).Name, Id: y, Type: m.node(y).Type})
		}
	default:
		x.Stat = api.Stat{Id: id, Type: n.Type, Size: n.Size, Mode: n.Mode, Stamp: n.Stamp}
	}
}

func (m model) set(x *change, c api.Call) {
	id, e := m.walk(c.Path, true)
	o := m.things[id]
	was := o.node
	if c.Op == api.CallChmod {
		o.node.Mode = c.Mode
	} else {
		o.node.Stamp = c.Stamp
	}
	switch {
	case e != api.OK:
		x.E = e
	case id == 1:
		x.E = api.ErrRoot
	case o.node.Mode < 0 || o.node.Mode > 4095:
		x.E = api.ErrNode
	case o.node != was:
		x.step(false, m.with(id, o), 0)
	}
}

func someName(r *rand.Rand) string {
	if r.Intn(12) == 0 {
		return someOf(r, "..", ".", strings.Repeat("n", 63))
	}
	return someOf(r, "a", "b", "c", "d", "e", "l", "ab", "A", "a!", "\xff")
}

// somePath picks a path; most of them lead to something, or to where something could be.
func (m model) somePath(r *rand.Rand) string {
	tree := m.leaves(1)
	p := someOf(r, tree...).Path
	dirs := slices.DeleteFunc(slices.Clone(tree), func(x api.Leaf) bool { return x.Type == api.TypeFile })
	dir := someOf(r, dirs...).Path // or a link
	switch r.Intn(20) {
	case 0:
		return dir + "/" + someOf(r, "..", "../..", "./", "/") + "/" + someName(r)
	case 1:
		return dir + someOf(r, "/..", "/", "/.", "/../"+someName(r)+"/"+someName(r))
	case 2:
		return p + "/" + someName(r)
	case 3:
		return someOf(r, p, p, p, "", "a", "\x00", "/a\x00", "/"+letters(64), strings.Repeat("/a", 65), strings.Repeat("/", 1024), "/", "/..")
	case 4, 5, 6, 7, 8, 9, 10:
		return dir + "/" + someName(r)
	}
	return p
}

func (m model) someTarget(r *rand.Rand) string {
	p := m.somePath(r)
	switch r.Intn(8) {
	case 0:
		return someOf(r, "", "\x00", letters(128), letters(127), "..", ".", "/", "l")
	case 1, 2:
		return strings.TrimPrefix(p, "/")
	case 3:
		return "../" + someName(r)
	case 4, 5:
		return someName(r)
	}
	return p
}

func (m model) someHandle(r *rand.Rand) int {
	if len(m.handles) == 0 || r.Intn(12) == 0 {
		return r.Intn(67) - 1
	}
	return someOf(r, slices.Sorted(maps.Keys(m.handles))...)
}

// someCall picks a call; most of them are taken.
func (m model) someCall(r *rand.Rand) api.Call {
	ops := []int{api.CallOpen, api.CallOpen, api.CallOpen, api.CallWrite, api.CallWrite, api.CallWrite, api.CallWrite, api.CallTruncate, api.CallRead, api.CallClose, api.CallMkdir, api.CallMkdir, api.CallLink, api.CallRename, api.CallRename, api.CallUnlink, api.CallUnlink, api.CallRmdir, api.CallChmod, api.CallTouch, api.CallStat, api.CallLook, api.CallList, api.CallTarget, api.CallUsage}
	c := api.Call{Op: someOf(r, ops...), Path: m.somePath(r), To: m.somePath(r), Mode: r.Intn(4096), Stamp: r.Uint64() >> r.Intn(64), Handle: m.someHandle(r)}
	switch c.Op {
	case api.CallOpen:
		c.Flags = someOf(r, api.OpenRead, api.OpenRead|api.OpenWrite, 7, 7, 7, 7, 6, 6, 15, 22, 18, r.Intn(36)-2)
		if r.Intn(2) == 0 {
			c.Path = "/" + someOf(r, "a", "b", "c", "d", "e", "f")
		}
	case api.CallWrite:
		c.At = someOf(r, 0, m.c, 2*m.c, m.c-1, r.Intn(4*m.c), r.Intn(m.c))
		c.Data = someBytes(r, someOf(r, 1, m.c, 2*m.c, m.c+1, r.Intn(5*m.c), r.Intn(9)))
	case api.CallTruncate:
		c.Size = someOf(r, 0, m.c, 1, m.c-1, r.Intn(5*m.c), r.Intn(5*m.c), r.Intn(5*m.c))
	case api.CallRead:
		c.At, c.Size = r.Intn(5*m.c)-1, r.Intn(5*m.c)-1
	case api.CallLink:
		c.To = m.someTarget(r)
	}
	if r.Intn(40) == 0 {
		c.Mode, c.At, c.Size = someOf(r, -1, 4096), someOf(r, -1, 1<<62, 256<<23), someOf(r, -1, 1<<62, 256<<23+1)
	}
	return c
}
