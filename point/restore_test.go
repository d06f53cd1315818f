package point

import (
	"cmp"
	"reflect"
	"slices"
	"testing"

	"shale/api"
	"shale/chip"
	"shale/leaf"
	"shale/scan"
)

// sheet is a page that is laid down by hand.
type sheet struct {
	at   api.Place
	tags api.Tags
	data []byte
	torn bool // its Program was broken off
}

func head(block int, serial, begin uint64) sheet {
	return sheet{at: at(block, 0), tags: api.Tags{Kind: api.KindHead, Serial: serial, Begin: begin}}
}

func layAll(t *testing.T, c *chip.Chip, list ...sheet) {
	t.Helper()
	slices.SortStableFunc(list, func(a, b sheet) int {
		return cmp.Or(cmp.Compare(a.at.Block, b.at.Block), cmp.Compare(a.at.Page, b.at.Page))
	})
	for _, x := range list {
		x.tags.Count = len(x.data)
		page, e := leaf.Build(c.Geometry(), x.tags, x.data)
		if e != api.OK {
			t.Fatalf("Build(%v): %d", x.tags, e)
		}
		if x.torn {
			clear(page.Spare[:9])
		}
		if e := c.Program(x.at, page); e != api.OK {
			t.Fatalf("Program(%v): %d", x.at, e)
		}
	}
}

// shelf is a chip with a checkpoint of three parts, of which each thing can be spoilt ahead of its being laid down.
type shelf struct {
	state api.State
	heads []sheet
	parts []sheet
	rest  []sheet
	marks []int
}

// newShelf: the object 2 is in the block 0; parts are in the blocks 1 and 2; the block 6 is marked.
func newShelf(t *testing.T, turns ...func(s *api.State)) *shelf {
	t.Helper()
	s := api.State{Floor: 5, Next: 8, Cursor: 0, Last: 0, Blocks: make([]api.Block, 8)}
	s.Blocks[0] = api.Block{State: api.BlockUsed, Head: 5, Real: true, Live: 1}
	s.Blocks[6].State = api.BlockBad
	s.Objects = []api.Object{object(2, file("a"), at(0, 1))}
	for _, turn := range turns {
		turn(&s)
	}
	b := packed(t, s)
	part := func(k int, p api.Place, serial uint64, link [4]byte, data []byte) sheet {
		return sheet{at: p, tags: api.Tags{Kind: api.KindSave, Serial: serial, Begin: 5, Object: 3, Chunk: k}, data: append(link[:], data...)}
	}
	x := &shelf{state: s, heads: []sheet{head(0, 5, 5), head(1, 8, 5), head(2, 11, 5)}, marks: []int{6}}
	x.parts = []sheet{
		part(0, at(1, 1), 9, [4]byte{255, 255, 255, 255}, b[:50]),
		part(1, at(1, 2), 10, [4]byte{1, 0, 1, 0}, b[50:51]),
		part(2, at(2, 1), 12, [4]byte{1, 0, 2, 0}, b[51:]),
	}
	x.parts[2].tags.Flags = api.FlagEnd
	r := header(2, file("a"))
	x.rest = []sheet{{at: at(0, 1), tags: api.Tags{Kind: api.KindNode, Serial: 6, Begin: 5, Object: 2}, data: r.Data}}
	return x
}

func (x *shelf) chip(t *testing.T) *chip.Chip {
	t.Helper()
	c := newChip(t, small(), nil)
	layAll(t, c, slices.Concat(x.heads, x.parts, x.rest)...)
	for _, b := range x.marks {
		c.Mark(b)
	}
	return c
}

// want is what Restore has to tell.
func (x *shelf) want() api.State {
	s := x.state
	s.Blocks = slices.Clone(s.Blocks)
	s.Next, s.Cursor, s.Last = 13, 2, 2
	s.Blocks[1] = api.Block{State: api.BlockUsed, Head: 8, Real: true}
	s.Blocks[2] = api.Block{State: api.BlockUsed, Head: 11, Real: true}
	return s
}

// K4: a checkpoint that is as it must be.
func TestK4Restore(t *testing.T) {
	x := newShelf(t)
	c := x.chip(t)
	s := restored(t, "the checkpoint", c, true)
	if !sameState(s, x.want()) {
		t.Errorf("Restore: %v, want %v", s, x.want())
	}
	asScanned(t, "the checkpoint", c, s)
	c.Flip(at(1, 1), 3)
	c.Flip(at(2, 0), 2100)
	if again := restored(t, "with flipped bits", c, true); !sameState(again, s) {
		t.Errorf("P9: Restore: %v", again)
	}
}

// K4, 1 and 2: the newest head, and the last whole page of its block.
func TestK4NewestBlock(t *testing.T) {
	save := func(p api.Place, serial uint64, flags, object, chunk int) sheet {
		return sheet{at: p, tags: api.Tags{Kind: api.KindSave, Flags: flags, Serial: serial, Begin: 5, Object: object, Chunk: chunk}, data: make([]byte, 9)}
	}
	chunkAt := func(p api.Place, serial uint64) sheet {
		return sheet{at: p, tags: api.Tags{Kind: api.KindData, Serial: serial, Begin: 5, Object: 2}, data: make([]byte, 9)}
	}
	copied, tornPage, farHead := chunkAt(at(2, 2), 13), chunkAt(at(2, 3), 13), head(2, 99, 99)
	copied.tags.Flags, tornPage.torn, farHead.at = api.FlagCopy, true, at(2, 3)
	tornHead := head(3, 13, 5)
	tornHead.torn = true
	for what, x := range map[string]struct {
		more  []sheet
		marks []int
		want  bool
	}{
		"nothing more":                       {nil, nil, true},
		"an older head":                      {[]sheet{head(3, 10, 5)}, nil, true},
		"an older head with a newer page":    {[]sheet{head(3, 10, 5), chunkAt(at(3, 1), 40)}, nil, true},
		"a newer head":                       {[]sheet{head(3, 12, 5)}, nil, false},
		"a newer head that is marked":        {[]sheet{head(3, 13, 5)}, []int{3}, true},
		"a newer head that is torn":          {[]sheet{tornHead}, nil, true},
		"a head of the same serial behind":   {[]sheet{head(3, 11, 5)}, nil, false},
		"a page 0 of another kind":           {[]sheet{chunkAt(at(3, 0), 30)}, nil, true},
		"a head that is not a page 0":        {[]sheet{{at: at(3, 1), tags: api.Tags{Kind: api.KindHead, Serial: 30, Begin: 5}}}, nil, true},
		"a page behind it":                   {[]sheet{chunkAt(at(2, 2), 13)}, nil, false},
		"a page behind it, with a gap":       {[]sheet{chunkAt(at(2, 3), 13)}, nil, false},
		"a page behind it, of less serial":   {[]sheet{chunkAt(at(2, 2), 6)}, nil, false},
		"a copy behind it":                   {[]sheet{copied}, nil, false},
		"a torn page behind it":              {[]sheet{tornPage}, nil, true},
		"a head's kind behind it":            {[]sheet{farHead}, nil, false},
		"a part of another one behind it":    {[]sheet{save(at(2, 2), 13, 0, 2, 0)}, nil, false},
		"the same last part again behind it": {[]sheet{save(at(2, 3), 13, api.FlagEnd, 1, 0)}, nil, false},
		"its block is marked":                {nil, []int{2}, false},
	} {
		s := newShelf(t)
		s.rest = append(s.rest, x.more...)
		s.marks = append(s.marks, x.marks...)
		got := restored(t, what, s.chip(t), x.want)
		if want := s.want(); x.want {
			for _, b := range x.marks {
				want.Blocks[b] = api.Block{State: api.BlockBad}
			}
			if !sameState(got, want) {
				t.Errorf("%s: %v, want %v", what, got, want)
			}
		}
	}
	// Of two heads of one serial the last one is the newest.
	s := newShelf(t)
	s.heads[1].tags.Serial = 11
	if got := restored(t, "a head of the same serial ahead", s.chip(t), true); got.Blocks[1].Head != 11 || got.Cursor != 2 {
		t.Errorf("Restore: %v", got)
	}
}

// K4, 1 and 2: chips without a head, or with nothing but heads.
func TestK4NoHead(t *testing.T) {
	restored(t, "a new chip", newChip(t, small(), nil), false)
	restored(t, "all bad", newChip(t, small(), []int{0, 1, 2, 3, 4, 5, 6, 7}), false)
	restored(t, "a format", formatted(t, small()), false)
	s := newShelf(t)
	s.heads = s.heads[:0]
	restored(t, "parts without heads", s.chip(t), false)
	s = newShelf(t)
	s.heads = s.heads[:2]
	restored(t, "the last part without a head", s.chip(t), false)
}

// K4, 3: from part to part.
func TestK4Parts(t *testing.T) {
	link := func(k int, b ...byte) func(x *shelf) {
		return func(x *shelf) { copy(x.parts[k].data, b) }
	}
	tags := func(k int, turn func(t *api.Tags)) func(x *shelf) {
		return func(x *shelf) { turn(&x.parts[k].tags) }
	}
	for what, spoil := range map[string]func(x *shelf){
		"a link to the block 8":       link(2, 8, 0, 2, 0),
		"a link to the block 256":     link(2, 0, 1, 2, 0),
		"a link to the block 257":     link(2, 1, 1, 2, 0),
		"a link to the page 4":        link(2, 1, 0, 4, 0),
		"a link to the page 258":      link(2, 1, 0, 2, 1),
		"a link to a head":            link(2, 1, 0, 0, 0),
		"a link to a blank page":      link(2, 1, 0, 3, 0),
		"a link to a header":          link(2, 0, 0, 1, 0),
		"a link to itself":            link(2, 2, 0, 1, 0),
		"a link to the part 0":        link(2, 1, 0, 1, 0),
		"no link":                     link(2, 255, 255, 255, 255),
		"no link of the part 1":       link(1, 255, 255, 255, 255),
		"a link of the part 0":        link(0, 1, 0, 1, 0),
		"almost none of the part 0":   link(0, 255, 255, 255, 254),
		"another Object of the part":  tags(1, func(t *api.Tags) { t.Object = 4 }),
		"another Object of the first": tags(0, func(t *api.Tags) { t.Object = 2 }),
		"another Object of the last":  tags(2, func(t *api.Tags) { t.Object, t.Chunk = 4, 3 }),
		"another Chunk of the part":   tags(1, func(t *api.Tags) { t.Chunk = 0 }),
		"another Chunk of the first":  tags(0, func(t *api.Tags) { t.Chunk = 1 }),
		"a part that is an end":       tags(1, func(t *api.Tags) { t.Flags, t.Object, t.Chunk = api.FlagEnd, 2, 1 }),
		"the last one is no end":      tags(2, func(t *api.Tags) { t.Flags, t.Chunk = 0, 1 }),
		"a part of another kind":      tags(1, func(t *api.Tags) { t.Kind = api.KindData }),
		"the last of another kind":    tags(2, func(t *api.Tags) { t.Kind, t.Flags = api.KindData, 0 }),
		"another Begin of the part":   tags(1, func(t *api.Tags) { t.Begin = 4 }),
		"another Begin of the first":  tags(0, func(t *api.Tags) { t.Begin = 6 }),
		"another Begin of the last":   tags(2, func(t *api.Tags) { t.Begin = 6 }),
		"a part's Serial as behind":   tags(1, func(t *api.Tags) { t.Serial = 12 }),
		"a part's Serial above it":    tags(1, func(t *api.Tags) { t.Serial = 13 }),
		"the first one's as behind":   tags(0, func(t *api.Tags) { t.Serial = 10 }),
		"a part that is torn":         func(x *shelf) { x.parts[1].torn = true },
		"the first that is torn":      func(x *shelf) { x.parts[0].torn = true },
		"the last that is torn":       func(x *shelf) { x.parts[2].torn = true },
		"a part's block is marked":    func(x *shelf) { x.marks = append(x.marks, 1) },
		"a part's block has no head":  func(x *shelf) { x.heads = append(x.heads[:1], x.heads[2]) },
		"its head is torn":            func(x *shelf) { x.heads[1].torn = true },
		"the first part has no bytes": func(x *shelf) { x.parts[0].data = x.parts[0].data[:4] },
		"a part has no bytes":         func(x *shelf) { x.parts[1].data = x.parts[1].data[:4] },
		"the last part has no bytes":  func(x *shelf) { x.parts[2].data = x.parts[2].data[:4] },
	} {
		x := newShelf(t)
		spoil(x)
		restored(t, what, x.chip(t), false)
	}
}

// K4, 3: a part without bytes is none, though the others come to a state.
func TestK4PartOfFiveBytes(t *testing.T) {
	x := newShelf(t)
	all := slices.Concat(x.parts[0].data[4:], x.parts[1].data[4:])
	x.parts[0].data = append(x.parts[0].data[:4:4], all...)
	x.parts[1].data = x.parts[1].data[:4:4]
	restored(t, "a part of four bytes", x.chip(t), false)
	x.parts[0].data = x.parts[0].data[:len(x.parts[0].data)-1]
	x.parts[1].data = append(x.parts[1].data, all[len(all)-1])
	restored(t, "a part of five bytes", x.chip(t), true)
}

// K4, 3: no part is left out, though the others come to a state.
func TestK4PartLeftOut(t *testing.T) {
	x := newShelf(t)
	x.parts[0].data = slices.Concat(x.parts[0].data, x.parts[1].data[4:])
	copy(x.parts[2].data, []byte{1, 0, 1, 0})
	restored(t, "the part 0 ahead of the part 2", x.chip(t), false)
	x.parts[0].tags.Object, x.parts[2].tags.Object, x.parts[2].tags.Chunk = 2, 2, 1
	restored(t, "the part 0 ahead of the part 1", x.chip(t), true)
}

// K4, 3: parts may lie anywhere, in blocks ahead of one another too, in an older block with other pages behind them.
func TestK4PartsAnywhere(t *testing.T) {
	x := newShelf(t)
	x.parts[0].at = at(7, 3)
	x.heads = append(x.heads, head(7, 3, 3))
	copy(x.parts[1].data, []byte{7, 0, 3, 0})
	x.rest = append(x.rest, sheet{at: at(1, 3), tags: api.Tags{Kind: api.KindData, Serial: 90, Begin: 5, Object: 2}, data: make([]byte, 3)})
	s := restored(t, "parts anywhere", x.chip(t), true)
	want := x.want()
	want.Blocks[7] = api.Block{State: api.BlockUsed, Head: 3, Real: true}
	if !sameState(s, want) {
		t.Errorf("Restore: %v, want %v", s, want)
	}
}

// K4, 4 to 6: what the parts come to.
func TestK4State(t *testing.T) {
	block := func(n int, x api.Block) func(s *api.State) { return func(s *api.State) { s.Blocks[n] = x } }
	for what, x := range map[string]struct {
		turn  func(s *api.State)
		marks []int
		want  bool
	}{
		"7 blocks":                   {func(s *api.State) { s.Blocks = s.Blocks[:7] }, nil, false},
		"9 blocks":                   {func(s *api.State) { s.Blocks = append(s.Blocks, api.Block{}) }, nil, false},
		"another Floor":              {func(s *api.State) { s.Floor = 4 }, nil, false},
		"another Next":               {func(s *api.State) { s.Next = 4444 }, nil, true},
		"no cursor, no last":         {func(s *api.State) { s.Cursor, s.Last = -1, -1 }, nil, true},
		"an open block":              {block(3, api.Block{State: api.BlockOpen, Head: 3, Real: true}), nil, false},
		"a leaving one":              {block(3, api.Block{State: api.BlockLeaving, Head: 3}), nil, false},
		"a waiting one":              {block(3, api.Block{State: api.BlockWaiting, Head: 3}), nil, false},
		"one that is held":           {block(3, api.Block{State: api.BlockHeld}), nil, false},
		"a used one":                 {block(3, api.Block{State: api.BlockUsed, Head: 3, Real: true}), nil, true},
		"a used one that is marked":  {block(3, api.Block{State: api.BlockUsed, Head: 3, Real: true}), []int{3}, false},
		"a bad one that is unmarked": {block(3, api.Block{State: api.BlockBad}), nil, false},
		"a bad one that is marked":   {block(3, api.Block{State: api.BlockBad}), []int{3}, true},
		"a free one that is marked":  {func(*api.State) {}, []int{3, 4}, true},
	} {
		s := newShelf(t, x.turn)
		s.marks = append(s.marks, x.marks...)
		got := restored(t, what, s.chip(t), x.want)
		if !x.want {
			continue
		}
		want := s.want()
		for _, b := range x.marks {
			want.Blocks[b] = api.Block{State: api.BlockBad}
		}
		if !sameState(got, want) {
			t.Errorf("%s: %v, want %v", what, got, want)
		}
	}
	s := newShelf(t)
	s.parts[2].data[30] ^= 255
	restored(t, "bytes that are no state's", s.chip(t), false)
	s = newShelf(t)
	s.parts[2].data = append(s.parts[2].data, 0)
	restored(t, "a byte more", s.chip(t), false)
}

// K4: what becomes of the blocks; nothing else of them is changed.
func TestK4Changes(t *testing.T) {
	odd := api.Block{State: api.BlockFree, Head: 77, Real: true, Live: 3}
	s := newShelf(t, func(s *api.State) {
		s.Blocks[1] = api.Block{State: api.BlockUsed, Head: 70, Live: 2}
		s.Blocks[2] = odd
		s.Blocks[3] = odd
		s.Blocks[4] = odd
		s.Blocks[6] = api.Block{State: api.BlockBad, Head: 9, Live: 1}
	})
	s.marks = append(s.marks, 4)
	got := restored(t, "odd blocks", s.chip(t), true)
	want := slices.Clone(s.state.Blocks)
	want[1].Real = true
	want[2] = api.Block{State: api.BlockUsed, Head: 11, Real: true}
	want[4] = api.Block{State: api.BlockBad}
	if !slices.Equal(got.Blocks, want) {
		t.Errorf("the blocks are %v, want %v", got.Blocks, want)
	}
}

// K4: one part alone is the first and the last one.
func TestK4OnePart(t *testing.T) {
	x := newShelf(t)
	all := slices.Concat(x.parts[0].data, x.parts[1].data[4:], x.parts[2].data[4:])
	x.parts = x.parts[2:]
	x.parts[0].tags.Object, x.parts[0].tags.Chunk, x.parts[0].data = 1, 0, all
	s := restored(t, "one part", x.chip(t), true)
	if s.Next != 13 || s.Cursor != 2 || s.Blocks[1] != (api.Block{}) || !s.Blocks[2].Real {
		t.Errorf("Restore: %v", s)
	}
	x.parts[0].data = slices.Concat([]byte{1, 0, 1, 0}, all[4:])
	restored(t, "one part with a link", x.chip(t), false)
}

// K4, K5: without power.
func TestK4Off(t *testing.T) {
	c := newChip(t, small(), nil, api.Fault{At: 3, Kind: api.FaultCut})
	layAll(t, c, head(0, 1, 1), head(1, 2, 1), head(2, 3, 1))
	c.Mark(7)
	if s, is, e := Restore(c); is || e != api.ErrOff || !reflect.DeepEqual(s, api.State{}) {
		t.Errorf("Restore: %v, %v, %d", s, is, e)
	}
	if l, is, e := Mount(c); l != nil || is || e != api.ErrOff {
		t.Errorf("Mount: %v, %v, %d", l, is, e)
	}
}

// K5: a log of the checkpoint; of the scan, if there is none, or none that a log takes.
func TestK5Mount(t *testing.T) {
	mounts := func(what string, c *chip.Chip, want bool) {
		t.Helper()
		n := len(c.Trace())
		l, is, e := Mount(c)
		if l == nil || is != want || e != api.OK {
			t.Fatalf("%s: Mount: %v, %d, want %v", what, is, e, want)
		}
		asScanned(t, what, c, l.State())
		if len(c.Trace()) != n {
			t.Errorf("%s: Mount gives commands", what)
		}
	}
	mounts("a checkpoint", newShelf(t).chip(t), true)
	mounts("a format", formatted(t, small()), false)
	odd := newShelf(t, func(s *api.State) { s.Blocks[0].Live = 2 })
	restored(t, "a Live that is too great", odd.chip(t), true)
	mounts("a Live that is too great", odd.chip(t), false)
	loose := newShelf(t, func(s *api.State) { s.Objects[0].Node.Parent = 0 })
	mounts("an unlinked object", loose.chip(t), false)

	c := newChip(t, small(), nil)
	if l, is, e := Mount(c); l != nil || is || e != api.ErrNone {
		t.Errorf("Mount of nothing: %v, %d", is, e)
	}
	// What a scan finds of two heads of one serial, no log takes.
	twice := []sheet{head(0, 1, 1), head(1, 1, 1)}
	for n := range 2 {
		twice = append(twice, sheet{at: at(n, 1), tags: api.Tags{Kind: api.KindNode, Serial: 2, Begin: 1, Object: 2 + n}, data: header(2, file("a")).Data})
	}
	layAll(t, c, twice...)
	if _, e := scan.Mount(c); e != api.OK {
		t.Fatalf("scan.Mount: %d", e)
	}
	if l, is, e := Mount(c); l != nil || is || e != api.ErrBlock {
		t.Errorf("Mount of two heads of one serial: %v, %d", is, e)
	}
}
