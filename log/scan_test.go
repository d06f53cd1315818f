package log

import (
	"cmp"
	"maps"
	"slices"
	"testing"

	"shale/api"
	"shale/chip"
	"shale/leaf"
	"shale/object"
)

// sight is what a scan of a whole chip finds: chapter 13, read off its words.
type sight struct {
	state api.State
	pages map[api.Place]api.Look // those that are whole, in blocks with a head
	heads map[int]uint64
	marks []bool
}

func scanned(t *testing.T, c *chip.Chip) sight {
	t.Helper()
	g := c.Geometry()
	s := sight{pages: map[api.Place]api.Look{}, heads: map[int]uint64{}, marks: make([]bool, g.Blocks)}
	for b := range g.Blocks {
		s.marks[b], _ = c.Marked(b)
		for p := range g.Pages {
			at := api.Place{Block: b, Page: p}
			look := looked(t, c, at)
			if p == 0 && look.State == api.LookWhole && look.Tags.Kind == api.KindHead && !s.marks[b] {
				s.heads[b] = look.Tags.Serial
			}
			if _, has := s.heads[b]; has && look.State == api.LookWhole {
				s.pages[at] = look
			}
		}
	}
	s.mount(t, g)
	return s
}

func looked(t *testing.T, c *chip.Chip, at api.Place) api.Look {
	t.Helper()
	page, e := c.Read(at)
	if e != api.OK {
		t.Fatalf("Read(%v): %d", at, e)
	}
	look, e := leaf.Open(c.Geometry(), page)
	if e != api.OK {
		t.Fatalf("Open of %v: %d", at, e)
	}
	return look
}

func byPlace(a, b api.Place) int { return cmp.Compare(a.Block*1000+a.Page, b.Block*1000+b.Page) }

func (s *sight) places() []api.Place { return slices.SortedFunc(maps.Keys(s.pages), byPlace) }

func (s *sight) real(p api.Place) bool {
	t := s.pages[p].Tags
	return t.Flags&api.FlagCopy == 0 && (t.Kind != api.KindHead || p.Page == 0)
}

// counted tells the pages that count, by rising serial.
func (s *sight) counted() []api.Place {
	var list []api.Place
	for _, p := range s.places() {
		t := s.pages[p].Tags
		if t.Kind != api.KindHead && t.Serial >= s.state.Floor && (s.real(p) || t.Begin <= s.state.Floor) {
			list = append(list, p)
		}
	}
	slices.SortStableFunc(list, func(a, b api.Place) int {
		return cmp.Compare(s.pages[a].Tags.Serial, s.pages[b].Tags.Serial)
	})
	return list
}

func (s *sight) mount(t *testing.T, g api.Geometry) {
	t.Helper()
	s.state.Cursor, s.state.Last = -1, -1
	var newest, last uint64
	for _, p := range s.places() {
		if s.real(p) {
			s.state.Floor = max(s.state.Floor, s.pages[p].Tags.Begin)
		}
		if tags := s.pages[p].Tags; tags.Serial >= newest {
			newest, s.state.Cursor = tags.Serial, p.Block
		}
	}
	for _, p := range s.places() {
		if tags := s.pages[p].Tags; s.real(p) && tags.Begin == s.state.Floor && tags.Serial >= last {
			last, s.state.Last = tags.Serial, p.Block
		}
	}
	s.state.Next = newest + 1
	x, e := object.New(g)
	if e != api.OK {
		t.Fatal(e)
	}
	for _, p := range s.counted() {
		x.Apply(s.pages[p].Tags, s.pages[p].Data, p)
	}
	for _, id := range x.Loose() {
		x.Forget(id)
	}
	s.state.Objects = x.Objects()
	for b := range g.Blocks {
		s.state.Blocks = append(s.state.Blocks, s.block(x, b, g.Pages))
	}
}

func (s *sight) block(x *object.Table, b, pages int) api.Block {
	if s.marks[b] {
		return api.Block{State: api.BlockBad}
	}
	k := api.Block{State: api.BlockUsed, Head: s.heads[b]}
	for p := 1; p < pages; p++ {
		at := api.Place{Block: b, Page: p}
		look, whole := s.pages[at]
		if whole && s.real(at) && look.Tags.Serial >= s.state.Floor {
			k.Real = true
		}
		if _, _, current := x.At(at); current {
			k.Live++
		}
	}
	switch {
	case k.Real || k.Live > 0:
		return k
	case b == s.state.Last:
		return api.Block{State: api.BlockHeld}
	}
	return api.Block{}
}

// tree tells the objects and what they hold.
func (s *sight) tree() tree {
	all := tree{}
	for _, o := range s.state.Objects {
		x := thing{node: o.Node, chunks: map[int]string{}}
		for _, c := range o.Chunks {
			x.chunks[c.Chunk] = string(s.pages[c.Piece.Place].Data[:c.Piece.Count])
		}
		all[o.Id] = x
	}
	return all
}
