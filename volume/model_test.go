package volume

import (
	"maps"
	"math/rand"
	"slices"
	"strings"

	"shale/api"
	"shale/node"
)

// model is a volume without a chip: chapter 15 in the plainest words. It is never changed: each step tells another one.
type model struct {
	c      int // bytes of a chunk
	things map[int]thing
}

// thing is an object: its header, a file's bytes, all of them, and which of its chunks have a page.
type thing struct {
	node  api.Node
	bytes string
	pages map[int]int // the chunks; each stands for itself
}

func newModel(g api.Geometry) model { return model{c: 256 * g.Sectors, things: map[int]thing{}} }

func (m model) with(id int, o thing) model {
	next := model{c: m.c, things: maps.Clone(m.things)}
	o.node.Size = len(o.bytes)
	o.pages = maps.Clone(o.pages)
	maps.DeleteFunc(o.pages, func(k, _ int) bool { return k*m.c >= len(o.bytes) })
	next.things[id] = o
	return next
}

func (m model) without(id int) model {
	next := model{c: m.c, things: maps.Clone(m.things)}
	delete(next.things, id)
	return next
}

// linked is what the next life shows.
func (m model) linked() model {
	next := model{c: m.c, things: maps.Clone(m.things)}
	maps.DeleteFunc(next.things, func(_ int, o thing) bool { return o.node.Parent == 0 })
	return next
}

func (m model) same(x model) bool {
	return maps.EqualFunc(m.things, x.things, func(a, b thing) bool { return a.node == b.node && a.bytes == b.bytes })
}

// live tells how many pages are current.
func (m model) live() int {
	n := len(m.things)
	for _, o := range m.things {
		n += len(o.pages)
	}
	return n
}

// grows tells whether a record needs one page more.
func (m model) grows(r api.Record) bool {
	o, there := m.things[r.Object]
	if r.Kind == api.KindData {
		_, there = o.pages[r.Chunk]
	}
	return !there
}

func (m model) node(id int) (api.Node, bool) {
	if id == 1 {
		return api.Node{Type: api.TypeDir, Parent: 1, Mode: 493}, true
	}
	o, there := m.things[id]
	return o.node, there
}

func (m model) ids() []int { return slices.Sorted(maps.Keys(m.things)) }

// in tells what lies in a directory, by number.
func (m model) in(parent int) []int {
	return slices.DeleteFunc(m.ids(), func(id int) bool { return m.things[id].node.Parent != parent })
}

func (m model) find(parent int, name string) int {
	for _, id := range m.in(parent) {
		if m.things[id].node.Name == name {
			return id
		}
	}
	return 0
}

func (m model) parent(id int) api.Errno {
	n, there := m.node(id)
	if !there || n.Parent == 0 {
		return api.ErrObject
	}
	if n.Type != api.TypeDir {
		return api.ErrNotDir
	}
	return api.OK
}

func (m model) file(id int) api.Errno {
	n, there := m.node(id)
	if !there {
		return api.ErrObject
	}
	if n.Type != api.TypeFile {
		return api.ErrType
	}
	return api.OK
}

// call is one of a volume's, as plain data.
type call struct {
	op    string
	id    int    // of all but make; of find and list the directory
	at, n int    // n: of cut the size, of move the directory, of set the mode
	name  string // of find and move
	data  string // of write
	stamp uint64
	node  api.Node // of make
}

// answer is what a call has told.
type answer struct {
	e       api.Errno
	number  int
	text    string
	node    api.Node
	entries string
}

// change is what a call should come to: its answer, if all steps are done; its steps; and how it stands ahead of each and behind the last one, with the number that is told if the next step is not done.
type change struct {
	answer
	steps  []api.Record
	states []model
	told   []int
}

func (x *change) step(r api.Record, behind model, told int) {
	x.steps = append(x.steps, r)
	x.states = append(x.states, behind)
	x.told = append(x.told, told)
}

// run makes a call.
func run(v *Volume, c call) answer {
	var a answer
	switch c.op {
	case "node":
		a.node, a.e = v.Node(c.id)
	case "find":
		a.number, a.e = v.Find(c.id, c.name)
	case "list":
		var list []api.Entry
		list, a.e = v.List(c.id)
		a.entries = entriesText(list)
	case "make":
		a.number, a.e = v.Make(c.node)
	case "read":
		var b []byte
		b, a.e = v.Read(c.id, c.at, c.n)
		a.text = string(b)
	case "write":
		a.number, a.e = v.Write(c.id, c.at, []byte(c.data))
	case "cut":
		a.e = v.Cut(c.id, c.n)
	case "move":
		a.e = v.Move(c.id, c.n, c.name)
	case "unlink":
		a.e = v.Unlink(c.id)
	case "forget":
		a.e = v.Forget(c.id)
	case "set":
		a.e = v.Set(c.id, c.n, c.stamp)
	}
	return a
}

func entriesText(list []api.Entry) string {
	var b strings.Builder
	for _, x := range list {
		b.WriteString(x.Name + "\x00" + string(rune(x.Id)) + string(rune(x.Type)) + "\x00")
	}
	return b.String()
}

// do tells what a call should come to.
func (m model) do(c call) change {
	x := change{states: []model{m}, told: []int{0}}
	switch c.op {
	case "node":
		n, there := m.node(c.id)
		if !there {
			x.e = api.ErrObject
		}
		x.node = n
	case "find":
		if x.e = m.parent(c.id); x.e == api.OK {
			if x.number = m.find(c.id, c.name); x.number == 0 {
				x.e = api.ErrMissing
			}
		}
	case "list":
		if x.e = m.parent(c.id); x.e == api.OK {
			x.entries = m.list(c.id)
		}
	case "make":
		m.make(&x, c.node)
	case "read":
		m.read(&x, c.id, c.at, c.n)
	case "write":
		m.write(&x, c.id, c.at, c.data)
	case "cut":
		m.cut(&x, c.id, c.n)
	case "move":
		m.move(&x, c.id, c.n, c.name)
	case "unlink":
		m.unlink(&x, c.id)
	case "forget":
		if o, there := m.things[c.id]; !there || o.node.Parent != 0 {
			x.e = api.ErrObject
		} else {
			x.states[0] = m.without(c.id)
		}
	case "set":
		m.set(&x, c.id, c.n, c.stamp)
	}
	return x
}

func (m model) list(parent int) string {
	var list []api.Entry
	for _, id := range m.in(parent) {
		n := m.things[id].node
		list = append(list, api.Entry{Name: n.Name, Id: id, Type: n.Type})
	}
	slices.SortFunc(list, func(a, b api.Entry) int { return strings.Compare(a.Name, b.Name) })
	return entriesText(list)
}

func (m model) make(x *change, n api.Node) {
	if n.Shadow != 0 || n.Size != 0 {
		x.e = api.ErrNode
	} else if x.e = node.Check(n); x.e == api.OK {
		x.e = m.parent(n.Parent)
	}
	if x.e == api.OK && m.find(n.Parent, n.Name) != 0 {
		x.e = api.ErrExists
	}
	if x.e != api.OK {
		return
	}
	id := 2
	for _, there := m.things[id]; there; _, there = m.things[id] {
		id++
	}
	x.number = id
	x.step(header(id, n), m.with(id, thing{node: n, pages: map[int]int{}}), id)
}

func (m model) read(x *change, id, at, n int) {
	if x.e = m.file(id); x.e != api.OK {
		return
	}
	if at < 0 || n < 0 {
		x.e = api.ErrRange
		return
	}
	for i, b := range []byte(m.things[id].bytes) {
		if i >= at && i-at < n {
			x.text += string([]byte{b})
		}
	}
}

func (m model) write(x *change, id, at int, data string) {
	if x.e = m.file(id); x.e != api.OK {
		return
	}
	if at < 0 {
		x.e = api.ErrRange
		return
	}
	if most := m.c << 20; at > most || at+len(data) > most {
		x.e = api.ErrBig
		return
	}
	for done := 0; done < len(data); {
		o := m.things[id]
		k := (at + done) / m.c
		n := min(len(data)-done, (k+1)*m.c-at-done)
		o.bytes = laid(o.bytes, at+done, data[done:done+n])
		o.pages = maps.Clone(o.pages)
		o.pages[k] = k
		m = m.with(id, o)
		done += n
		x.step(chunk(id, k, o.bytes[k*m.c:min(len(o.bytes), (k+1)*m.c)]), m, done)
	}
	x.number = len(data)
}

// laid tells bytes with others laid over them, from a place on.
func laid(bytes string, at int, data string) string {
	for len(bytes) < at {
		bytes += "\x00"
	}
	tail := ""
	if len(bytes) > at+len(data) {
		tail = bytes[at+len(data):]
	}
	return bytes[:at] + data + tail
}

func (m model) cut(x *change, id, size int) {
	if x.e = m.file(id); x.e != api.OK {
		return
	}
	if size < 0 {
		x.e = api.ErrRange
		return
	}
	if size > m.c<<20 {
		x.e = api.ErrBig
		return
	}
	o := m.things[id]
	k, had := size/m.c, len(o.bytes)
	if size == had {
		return
	}
	for len(o.bytes) < size {
		o.bytes += "\x00"
	}
	o.bytes = o.bytes[:size]
	behind := m.with(id, o)
	if _, there := o.pages[k]; size < had && size%m.c != 0 && there {
		x.step(lastChunk(id, k, o.bytes[k*m.c:]), behind, 0)
		return
	}
	x.step(header(id, behind.things[id].node), behind, 0)
}

func (m model) move(x *change, id, parent int, name string) {
	o, there := m.things[id]
	if id == 1 {
		x.e = api.ErrRoot
	} else if !there || o.node.Parent == 0 {
		x.e = api.ErrObject
	} else if x.e = node.Name(name); x.e == api.OK {
		x.e = m.parent(parent)
	}
	if x.e != api.OK {
		return
	}
	for at := parent; o.node.Type == api.TypeDir && at != 1; at = m.things[at].node.Parent {
		if at == id {
			x.e = api.ErrInto
			return
		}
	}
	t := m.find(parent, name)
	if t == id {
		return
	}
	other := m.things[t]
	if t != 0 {
		if other.node.Type == api.TypeDir && o.node.Type != api.TypeDir {
			x.e = api.ErrIsDir
		} else if other.node.Type != api.TypeDir && o.node.Type == api.TypeDir {
			x.e = api.ErrNotDir
		} else if len(m.in(t)) > 0 {
			x.e = api.ErrUsed
		}
		if x.e != api.OK {
			return
		}
		other.node.Parent = 0
		m = m.with(t, other)
	}
	o.node.Parent, o.node.Name = parent, name
	n := o.node
	n.Shadow = t
	x.step(header(id, n), m.with(id, o), 0)
}

func (m model) unlink(x *change, id int) {
	o, there := m.things[id]
	if id == 1 {
		x.e = api.ErrRoot
	} else if !there || o.node.Parent == 0 {
		x.e = api.ErrObject
	} else if len(m.in(id)) > 0 {
		x.e = api.ErrUsed
	} else {
		o.node.Parent = 0
		x.step(header(id, o.node), m.with(id, o), 0)
	}
}

func (m model) set(x *change, id, mode int, stamp uint64) {
	o, there := m.things[id]
	if id == 1 {
		x.e = api.ErrRoot
	} else if !there {
		x.e = api.ErrObject
	} else if mode < 0 || mode > 4095 {
		x.e = api.ErrNode
	} else if o.node.Mode != mode || o.node.Stamp != stamp {
		o.node.Mode, o.node.Stamp = mode, stamp
		x.step(header(id, o.node), m.with(id, o), 0)
	}
}

// someId picks an object that is there, most of the time.
func (m model) someId(r *rand.Rand, kind int) int {
	var list []int
	for _, id := range append([]int{1}, m.ids()...) {
		if n, _ := m.node(id); n.Type == kind {
			list = append(list, id)
		}
	}
	if len(list) == 0 || r.Intn(10) == 0 {
		return r.Intn(len(m.things)+5) - 1
	}
	return someOf(r, list...)
}

func someType(r *rand.Rand) int {
	return someOf(r, api.TypeFile, api.TypeFile, api.TypeDir, api.TypeLink)
}

func someName(r *rand.Rand) string {
	return someOf(r, "a", "b", "c", "d", "e", "f", "ab", "A", "\xff", strings.Repeat("n", 63), "", "..", "x/y")
}

// someCall picks a call; most of them are taken.
func (m model) someCall(r *rand.Rand) call {
	c := call{id: m.someId(r, someType(r)), n: r.Intn(4096), name: someName(r), stamp: r.Uint64() >> r.Intn(64)}
	switch r.Intn(14) {
	case 0, 1:
		c.op = "make"
		c.node = someOf(r, fileIn, fileIn, dirIn, linkIn)(m.someId(r, api.TypeDir), someName(r))
		if r.Intn(20) == 0 {
			c.node.Size, c.node.Shadow = r.Intn(2), r.Intn(3)
		}
	case 2, 3, 4, 5:
		c.op, c.id = "write", m.someId(r, api.TypeFile)
		c.at = someOf(r, 0, m.c, 2*m.c, m.c-1, r.Intn(4*m.c), r.Intn(m.c))
		c.data = string(someBytes(r, someOf(r, 1, m.c, 2*m.c, m.c+1, r.Intn(5*m.c), r.Intn(9))))
	case 6:
		c.op, c.id = "cut", m.someId(r, api.TypeFile)
		c.n = someOf(r, 0, m.c, 1, m.c-1, r.Intn(5*m.c), r.Intn(5*m.c))
	case 7, 8:
		c.op, c.n = "move", m.someId(r, api.TypeDir)
	case 9:
		c.op = "unlink"
	case 10:
		c.op = "forget"
		if loose := m.in(0); len(loose) > 0 && r.Intn(4) > 0 {
			c.id = someOf(r, loose...)
		}
	case 11:
		c.op = "set"
		if r.Intn(8) == 0 {
			c.n = someOf(r, -1, 4096)
		}
	case 12:
		c.op, c.id = "read", m.someId(r, api.TypeFile)
		c.at, c.n = r.Intn(5*m.c)-1, r.Intn(5*m.c)-1
	default:
		c.op = someOf(r, "node", "find", "list")
		if c.op != "node" {
			c.id = m.someId(r, api.TypeDir)
		}
	}
	return c
}
