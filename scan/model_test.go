package scan

import (
	"cmp"
	"math/rand"
	"reflect"
	"slices"
	"strconv"
	"testing"

	"shale/api"
	"shale/chip"
	"shale/leaf"
	"shale/object"
)

// model is a scan that asks each of the chapter's words anew, page by page, of the chip itself.
type model struct {
	t *testing.T
	c *chip.Chip
}

func (m model) all() []api.Place {
	g := m.c.Geometry()
	var list []api.Place
	for n := range g.Blocks * g.Pages {
		list = append(list, at(n/g.Pages, n%g.Pages))
	}
	return list
}

func (m model) marked(block int) bool {
	is, e := m.c.Marked(block)
	if e != api.OK {
		m.t.Fatal(e)
	}
	return is
}

func (m model) look(p api.Place) api.Look {
	page, e := m.c.Read(p)
	if e != api.OK {
		m.t.Fatal(e)
	}
	look, e := leaf.Open(m.c.Geometry(), page)
	if e != api.OK {
		m.t.Fatal(e)
	}
	return look
}

func (m model) tags(p api.Place) api.Tags { return m.look(p).Tags }

func (m model) whole(p api.Place) bool {
	return !m.marked(p.Block) && m.look(p).State == api.LookWhole
}

func (m model) hasHead(block int) bool {
	return m.whole(at(block, 0)) && m.tags(at(block, 0)).Kind == api.KindHead
}

func (m model) known(p api.Place) bool { return m.whole(p) && m.hasHead(p.Block) }

func (m model) real(p api.Place) bool {
	if !m.known(p) {
		return false
	}
	t := m.tags(p)
	if t.Kind == api.KindHead {
		return p.Page == 0
	}
	return t.Flags&api.FlagCopy == 0
}

func (m model) those(so func(api.Place) bool) []api.Place {
	return slices.DeleteFunc(m.all(), func(p api.Place) bool { return !so(p) })
}

func (m model) floor() uint64 {
	floor := uint64(0)
	for _, p := range m.those(m.real) {
		floor = max(floor, m.tags(p).Begin)
	}
	return floor
}

func (m model) counted() []api.Place {
	floor := m.floor()
	list := m.those(func(p api.Place) bool {
		t := m.tags(p)
		return m.known(p) && t.Kind != api.KindHead && t.Serial >= floor && (m.real(p) || t.Begin <= floor)
	})
	slices.SortStableFunc(list, m.bySerial)
	return list
}

func (m model) bySerial(a, b api.Place) int { return cmp.Compare(m.tags(a).Serial, m.tags(b).Serial) }

// newest tells the last one of those with the greatest serial.
func (m model) newest(list []api.Place) api.Place {
	slices.SortStableFunc(list, m.bySerial)
	return list[len(list)-1]
}

func (m model) mount() (api.State, api.Errno) {
	if len(m.those(func(p api.Place) bool { return m.hasHead(p.Block) })) == 0 {
		return api.State{}, api.ErrNone
	}
	x, e := object.New(m.c.Geometry())
	if e != api.OK {
		m.t.Fatal(e)
	}
	for _, p := range m.counted() {
		look := m.look(p)
		x.Apply(look.Tags, look.Data, p)
	}
	for _, id := range x.Loose() {
		x.Forget(id)
	}
	floor, newest := m.floor(), m.newest(m.those(m.known))
	last := m.newest(m.those(func(p api.Place) bool { return m.real(p) && m.tags(p).Begin == floor })).Block
	s := api.State{Floor: floor, Next: m.tags(newest).Serial + 1, Cursor: newest.Block, Last: last, Objects: x.Objects()}
	for b := range m.c.Geometry().Blocks {
		s.Blocks = append(s.Blocks, m.block(b, last, floor, x))
	}
	return s, api.OK
}

func (m model) block(b, last int, floor uint64, x *object.Table) api.Block {
	live := 0
	isReal := false
	for p := range m.c.Geometry().Pages {
		if _, _, current := x.At(at(b, p)); current {
			live++
		}
		isReal = isReal || p > 0 && m.real(at(b, p)) && m.tags(at(b, p)).Serial >= floor
	}
	switch {
	case m.marked(b):
		return api.Block{State: api.BlockBad}
	case isReal || live > 0:
		return api.Block{State: api.BlockUsed, Head: m.tags(at(b, 0)).Serial, Real: isReal, Live: live}
	case b == last:
		return api.Block{State: api.BlockHeld}
	}
	return api.Block{}
}

// agrees fails unless all calls tell what the model does, and write nothing.
func (m model) agrees(what string) {
	m.t.Helper()
	n := len(m.c.Trace())
	if l, e := Leaves(m.c); e != api.OK || !slices.Equal(places(l), m.those(m.whole)) {
		m.t.Fatalf("%s: Leaves: %v, %d", what, places(l), e)
	}
	if f, e := Floor(m.c); e != api.OK || f != m.floor() {
		m.t.Fatalf("%s: Floor: %d, %d, want %d", what, f, e, m.floor())
	}
	if l, e := Counted(m.c); e != api.OK || !slices.Equal(places(l), m.counted()) {
		m.t.Fatalf("%s: Counted: %v, %d, want %v", what, places(l), e, m.counted())
	}
	want, wanted := m.mount()
	if s, e := Mount(m.c); e != wanted || !reflect.DeepEqual(s, want) {
		m.t.Fatalf("%s: Mount: %v, %d, want %v, %d", what, s, e, want, wanted)
	}
	wroteNothing(m.t, m.c, n)
}

// someSheet picks a page of any kind, with serials that are near to one another.
func someSheet(r *rand.Rand, p api.Place) sheet {
	serial := uint64(1 + r.Intn(30))
	begin := 1 + uint64(r.Intn(int(serial)))
	if r.Intn(3) > 0 {
		begin = 1 + uint64(r.Intn(min(int(serial), 6)))
	}
	id := 2 + r.Intn(4)
	n := someOf(r, file("a"), file("b"), api.Node{Type: api.TypeDir, Parent: 1, Name: "d"}, api.Node{Type: api.TypeFile, Name: "u"}, api.Node{Type: api.TypeFile, Parent: 1, Name: "s", Size: r.Intn(900), Shadow: 2 + r.Intn(4)})
	x := header(p, serial, begin, id, n)
	switch r.Intn(8) {
	case 0:
		return save(p, serial, begin)
	case 1:
		return sheet{at: p, tags: api.Tags{Kind: api.KindHead, Serial: serial, Begin: begin}}
	case 2, 3, 4:
		x = chunk(p, serial, begin, id, r.Intn(4), 1+r.Intn(256))
		if r.Intn(6) == 0 {
			x.tags.Flags = api.FlagCut
			return x
		}
	case 5:
		x.data = x.data[:len(x.data)-1]
	}
	if r.Intn(3) == 0 {
		return copied(x)
	}
	return x
}

// scribbled is a chip of pages that no log would have written, with blocks that are marked, torn pages and bits that have aged.
func scribbled(t *testing.T, r *rand.Rand) *chip.Chip {
	t.Helper()
	g := someOf(r, small(), shape(9, 5, 1), shape(11, 4, 2))
	c := newChip(t, g, []int{r.Intn(g.Blocks)}, api.Fault{At: 5 + r.Intn(9), Kind: api.FaultFail, Mask: someBytes(r, 100)}, api.Fault{At: 20, Kind: api.FaultFail, Fill: 255})
	for b := range g.Blocks {
		if is, _ := c.Marked(b); is || r.Intn(9) == 0 {
			continue
		}
		for p := range g.Pages {
			x := someSheet(r, at(b, p))
			if p == 0 && r.Intn(8) > 0 {
				x = head(b, x.tags.Serial, x.tags.Begin)
			}
			x.tags.Count = len(x.data)
			page, e := leaf.Build(g, x.tags, x.data)
			if e != api.OK {
				t.Fatal(e)
			}
			if r.Intn(6) > 0 {
				c.Program(x.at, page)
			}
			c.Flip(x.at, r.Intn(2000))
		}
	}
	if r.Intn(3) == 0 {
		c.Mark(r.Intn(g.Blocks))
	}
	return c
}

func TestModelOfAnyPages(t *testing.T) {
	for seed := range int64(400) {
		m := model{t, scribbled(t, rand.New(rand.NewSource(seed)))}
		m.agrees("seed " + strconv.FormatInt(seed, 10))
	}
}

func TestModelOfALog(t *testing.T) {
	for seed := range int64(12) {
		r := rand.New(rand.NewSource(seed))
		var faults []api.Fault
		for n := 7; seed%2 == 1 && n < 100; n += 1 + r.Intn(40) {
			faults = append(faults, api.Fault{At: n, Kind: 1 + r.Intn(2), Mask: someBytes(r, r.Intn(500)), Fill: someOf[byte](r, 0, 255)})
		}
		model{t, written(t, r, someOf(r, shape(12, 4, 1), shape(13, 5, 2)), 10+r.Intn(80), faults...)}.agrees("behind a log")
	}
}
