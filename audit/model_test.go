package audit

import (
	"cmp"
	"math/rand"
	"reflect"
	"slices"
	"testing"

	"shale/api"
	"shale/chip"
	"shale/leaf"
	"shale/node"
	"shale/object"
	"shale/point"
)

func shape(blocks, pages, sectors int) api.Geometry {
	return api.Geometry{Blocks: blocks, Pages: pages, Sectors: sectors}
}

func small() api.Geometry { return shape(8, 4, 1) }

func at(block, page int) api.Place { return api.Place{Block: block, Page: page} }

func someOf[T any](r *rand.Rand, list ...T) T { return list[r.Intn(len(list))] }

func someBytes(r *rand.Rand, n int) []byte {
	b := make([]byte, n)
	r.Read(b)
	return b
}

func newChip(t *testing.T, g api.Geometry, bad []int, faults ...api.Fault) *chip.Chip {
	t.Helper()
	c, e := chip.New(g, bad, faults)
	if e != api.OK {
		t.Fatalf("chip.New: %d", e)
	}
	return c
}

// sheet is a page that is laid down by hand.
type sheet struct {
	at   api.Place
	tags api.Tags
	data []byte
}

func head(block int, serial, begin uint64) sheet {
	return sheet{at: at(block, 0), tags: api.Tags{Kind: api.KindHead, Serial: serial, Begin: begin}}
}

func file(parent int, name string) api.Node {
	return api.Node{Type: api.TypeFile, Parent: parent, Name: name}
}

func dir(parent int, name string) api.Node {
	return api.Node{Type: api.TypeDir, Parent: parent, Name: name}
}

func header(p api.Place, serial, begin uint64, id int, n api.Node) sheet {
	b, e := node.Pack(n)
	if e != api.OK {
		panic(e)
	}
	return sheet{at: p, tags: api.Tags{Kind: api.KindNode, Serial: serial, Begin: begin, Object: id}, data: b}
}

func chunk(p api.Place, serial, begin uint64, id, k, n int) sheet {
	return sheet{at: p, tags: api.Tags{Kind: api.KindData, Serial: serial, Begin: begin, Object: id, Chunk: k}, data: make([]byte, n)}
}

func save(p api.Place, serial, begin uint64) sheet {
	return sheet{at: p, tags: api.Tags{Kind: api.KindSave, Flags: api.FlagEnd, Serial: serial, Begin: begin, Object: 1}, data: make([]byte, 9)}
}

func copied(x sheet) sheet {
	x.tags.Flags = api.FlagCopy
	return x
}

func lay(t *testing.T, c *chip.Chip, list ...sheet) {
	t.Helper()
	for _, x := range list {
		x.tags.Count = len(x.data)
		page, e := leaf.Build(c.Geometry(), x.tags, x.data)
		if e != api.OK {
			t.Fatalf("Build(%v): %d", x.tags, e)
		}
		if e := c.Program(x.at, page); e != api.OK {
			t.Fatalf("Program(%v): %d", x.at, e)
		}
	}
}

// found is a finding of a page or a block, lone of an object.
func found(kind, block, page int) api.Finding {
	return api.Finding{Kind: kind, Place: at(block, page)}
}

func lone(kind, id int) api.Finding { return api.Finding{Kind: kind, Object: id} }

func sameReport(a, b api.Report) bool {
	same := slices.Equal(a.Findings, b.Findings)
	a.Findings, b.Findings = nil, nil
	return same && reflect.DeepEqual(a, b)
}

// reports fails unless a chip's report is this one.
func reports(t *testing.T, what string, c *chip.Chip, want api.Report) {
	t.Helper()
	if r, e := Run(c.Image()); e != api.OK || !sameReport(r, want) {
		t.Errorf("%s: %v, %d, want %v", what, r, e, want)
	}
}

// model audits by asking each of the document's words anew, page by page.
type model struct {
	t *testing.T
	c *chip.Chip
}

func (m model) all() []api.Place {
	g := m.c.Geometry()
	var list []api.Place
	for n := range g.Blocks * g.Pages {
		list = append(list, at(n/g.Pages, n%g.Pages))
	}
	return list
}

func (m model) those(so func(api.Place) bool) []api.Place {
	return slices.DeleteFunc(m.all(), func(p api.Place) bool { return !so(p) })
}

func (m model) marked(block int) bool {
	is, e := m.c.Marked(block)
	if e != api.OK {
		m.t.Fatal(e)
	}
	return is
}

func (m model) look(p api.Place) api.Look {
	page, e := m.c.Read(p)
	if e != api.OK {
		m.t.Fatal(e)
	}
	look, e := leaf.Open(m.c.Geometry(), page)
	if e != api.OK {
		m.t.Fatal(e)
	}
	return look
}

func (m model) tags(p api.Place) api.Tags { return m.look(p).Tags }

func (m model) is(p api.Place, state int) bool {
	return !m.marked(p.Block) && m.look(p).State == state
}

func (m model) whole(p api.Place) bool { return m.is(p, api.LookWhole) }

func (m model) isHead(p api.Place) bool {
	return p.Page == 0 && m.whole(p) && m.tags(p).Kind == api.KindHead
}

func (m model) known(p api.Place) bool { return m.whole(p) && m.isHead(at(p.Block, 0)) }

func (m model) real(p api.Place) bool {
	return m.isHead(p) || m.known(p) && m.tags(p).Kind != api.KindHead && m.tags(p).Flags&api.FlagCopy == 0
}

func (m model) floor() uint64 {
	floor := uint64(0)
	for _, p := range m.those(m.real) {
		floor = max(floor, m.tags(p).Begin)
	}
	return floor
}

func (m model) counted() []api.Place {
	floor := m.floor()
	list := m.those(func(p api.Place) bool {
		t := m.tags(p)
		return m.known(p) && t.Kind != api.KindHead && t.Serial >= floor && (m.real(p) || t.Begin <= floor)
	})
	slices.SortStableFunc(list, func(a, b api.Place) int { return cmp.Compare(m.tags(a).Serial, m.tags(b).Serial) })
	return list
}

func (m model) report() api.Report {
	counted := m.counted()
	x, e := object.New(m.c.Geometry())
	if e != api.OK {
		m.t.Fatal(e)
	}
	var refused []api.Place
	for _, p := range counted {
		look := m.look(p)
		if _, e := x.Apply(look.Tags, look.Data, p); e != api.OK {
			refused = append(refused, p)
		}
	}
	findings := m.pages(counted, refused)
	findings = append(findings, m.objects(x)...)
	for b := range m.c.Geometry().Blocks {
		if m.marked(b) {
			findings = append(findings, found(api.FoundBad, b, 0))
		}
	}
	for _, id := range x.Loose() {
		x.Forget(id)
	}
	_, saved, e := point.Restore(m.c)
	if e != api.OK {
		m.t.Fatal(e)
	}
	r := api.Report{Floor: m.floor(), Counted: len(counted), Live: x.Live(), Saved: saved, Findings: findings}
	for b := range m.c.Geometry().Blocks {
		if m.marked(b) {
			r.Bad++
		} else if m.used(b, x) {
			r.Used++
		}
	}
	return r
}

func (m model) used(b int, x *object.Table) bool {
	for p := range m.c.Geometry().Pages {
		if _, _, current := x.At(at(b, p)); current || p > 0 && m.real(at(b, p)) && m.tags(at(b, p)).Serial >= m.floor() {
			return true
		}
	}
	return false
}

// pages tells the findings of pages, kind by kind.
func (m model) pages(counted, refused []api.Place) []api.Finding {
	var list []api.Finding
	find := func(kind int, so func(api.Place) bool) {
		for _, p := range m.those(so) {
			list = append(list, found(kind, p.Block, p.Page))
		}
	}
	find(api.FoundBroken, func(p api.Place) bool { return m.is(p, api.LookBroken) })
	find(api.FoundFixed, func(p api.Place) bool { return m.whole(p) && m.look(p).Fixed > 0 })
	find(api.FoundStale, func(p api.Place) bool { return m.whole(p) && !slices.Contains(counted, p) && !m.isHead(p) })
	find(api.FoundHeader, func(p api.Place) bool { return slices.Contains(refused, p) })
	return list
}

// objects tells the findings of objects, kind by kind.
func (m model) objects(x *object.Table) []api.Finding {
	var list []api.Finding
	objects := x.Objects()
	find := func(kind int, so func(api.Object) bool) {
		for _, o := range objects {
			if so(o) {
				list = append(list, lone(kind, o.Id))
			}
		}
	}
	named := func(o api.Object) bool { return o.Head && o.Node.Parent != 0 }
	find(api.FoundPhantom, func(o api.Object) bool { return !o.Head })
	find(api.FoundLost, func(o api.Object) bool { return named(o) && !comesToRoot(x, o) })
	find(api.FoundTwice, func(o api.Object) bool {
		return named(o) && slices.ContainsFunc(objects, func(q api.Object) bool {
			return q.Id < o.Id && q.Head && q.Node.Parent == o.Node.Parent && q.Node.Name == o.Node.Name
		})
	})
	find(api.FoundLink, func(o api.Object) bool { return o.Head && o.Node.Parent == 0 })
	return list
}

// comesToRoot goes from parent to parent, no more times than there are objects.
func comesToRoot(x *object.Table, o api.Object) bool {
	at := o.Node.Parent
	for range len(x.Objects()) + 1 {
		if at == api.Root {
			return true
		}
		n, e := x.Node(at)
		if e != api.OK || n.Type != api.TypeDir || n.Parent == 0 {
			return false
		}
		at = n.Parent
	}
	return false
}

// agrees fails unless Run tells what the model does, and P19.4 is kept.
func (m model) agrees(what string) api.Report {
	m.t.Helper()
	image := m.c.Image()
	r, e := Run(image)
	if want := m.report(); e != api.OK || !sameReport(r, want) {
		m.t.Fatalf("%s: %v, %d, want %v", what, r, e, want)
	}
	if !reflect.DeepEqual(image, m.c.Image()) {
		m.t.Fatalf("R4: %s: the image has changed", what)
	}
	m.adds(r)
	return r
}

// adds holds a report against P19.4: each page of the blocks that are not marked is one of five things.
func (m model) adds(r api.Report) {
	m.t.Helper()
	sum := map[api.Place]int{}
	for _, f := range r.Findings {
		if f.Kind == api.FoundBroken || f.Kind == api.FoundStale {
			sum[f.Place]++
		}
	}
	for _, p := range m.counted() {
		sum[p]++
	}
	if r.Counted != len(m.counted()) {
		m.t.Fatalf("P19.4: %d pages count", r.Counted)
	}
	for _, p := range m.all() {
		n := sum[p]
		if m.isHead(p) {
			n++
		}
		if m.is(p, api.LookBlank) {
			n++
		}
		if m.marked(p.Block) && n != 0 || !m.marked(p.Block) && n != 1 {
			m.t.Fatalf("P19.4: the page %v is %d of these", p, n)
		}
	}
}
