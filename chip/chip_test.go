package chip

import (
	"bytes"
	"math"
	"math/rand"
	"slices"
	"testing"

	"shale/api"
)

func small() api.Geometry { return api.Geometry{Blocks: 8, Pages: 4, Sectors: 1} }

// even tells a page of small chips in which all bytes are the same.
func even(v byte) api.Page {
	return api.Page{Data: bytes.Repeat([]byte{v}, 256), Spare: bytes.Repeat([]byte{v}, 57)}
}

func made(t *testing.T, bad []int, faults ...api.Fault) *Chip {
	t.Helper()
	c, e := New(small(), bad, faults)
	if e != api.OK || c == nil {
		t.Fatalf("New: %d", e)
	}
	return c
}

func place(block, page int) api.Place { return api.Place{Block: block, Page: page} }

func reads(t *testing.T, c *Chip, p api.Place) []byte {
	t.Helper()
	page, e := c.Read(p)
	if e != api.OK {
		t.Fatalf("Read(%v): %d", p, e)
	}
	return append(slices.Clone(page.Data), page.Spare...)
}

func isEven(b []byte, v byte) bool { return bytes.Equal(b, bytes.Repeat([]byte{v}, len(b))) }

// expect holds answers against those that are wanted, one by one.
func expect(t *testing.T, what string, got []api.Errno, want ...api.Errno) {
	t.Helper()
	if !slices.Equal(got, want) {
		t.Errorf("%s: %v, want %v", what, got, want)
	}
}

func TestC1Spare(t *testing.T) {
	for sectors, want := range map[int]int{1: 57, 2: 60, 3: 63, 7: 75, 8: 78} {
		if n, e := Spare(api.Geometry{Blocks: 8, Pages: 4, Sectors: sectors}); n != want || e != api.OK {
			t.Errorf("Spare of %d sectors: %d, %d, want %d", sectors, n, e, want)
		}
	}
	for _, c := range []struct {
		blocks, pages, sectors int
		ok                     bool
	}{
		{8, 4, 1, true}, {4096, 16, 8, true}, {256, 256, 8, true}, {8, 256, 1, true}, {4096, 4, 1, true}, {4095, 16, 1, true},
		{7, 4, 1, false}, {4097, 4, 1, false}, {0, 4, 1, false}, {-8, 4, 1, false},
		{8, 3, 1, false}, {8, 257, 1, false}, {8, 0, 1, false}, {8, -4, 1, false}, {-8, -4, 1, false},
		{8, 4, 0, false}, {8, 4, 9, false}, {8, 4, -1, false},
		{4096, 17, 1, false}, {257, 256, 1, false}, {4096, 256, 1, false},
		{math.MaxInt, 4, 1, false}, {1 << 62, 4, 1, false}, {8, math.MaxInt, 1, false}, {8, 4, math.MaxInt, false},
		{math.MinInt, math.MinInt, math.MinInt, false}, {0, 0, 0, false},
	} {
		g := api.Geometry{Blocks: c.blocks, Pages: c.pages, Sectors: c.sectors}
		n, e := Spare(g)
		if c.ok && (e != api.OK || n != 54+3*c.sectors) || !c.ok && (e != api.ErrShape || n != 0) {
			t.Errorf("Spare(%v) = %d, %d", g, n, e)
		}
		x, e := New(g, nil, nil)
		if c.ok && (e != api.OK || x == nil || x.Geometry() != g) || !c.ok && (e != api.ErrShape || x != nil) {
			t.Errorf("New(%v): %d", g, e)
		}
	}
}

func TestC2NewRefuses(t *testing.T) {
	wrong := []api.Fault{{Kind: 3}}
	for _, c := range []struct {
		g      api.Geometry
		bad    []int
		faults []api.Fault
		want   api.Errno
	}{
		{api.Geometry{}, []int{-1}, wrong, api.ErrShape},
		{small(), []int{8}, nil, api.ErrPlace},
		{small(), []int{0, 7, -1}, nil, api.ErrPlace},
		{small(), []int{math.MinInt}, nil, api.ErrPlace},
		{small(), []int{math.MaxInt}, wrong, api.ErrPlace},
		{small(), []int{7, 0, 7}, nil, api.OK},
		{small(), []int{0}, wrong, api.ErrFault},
	} {
		x, e := New(c.g, c.bad, c.faults)
		if e != c.want || (x == nil) != (e != api.OK) {
			t.Errorf("New(%v, %v, %v): %d, want %d", c.g, c.bad, c.faults, e, c.want)
		}
	}
}

// rising tells n faults of the commands 0, 1, ..
func rising(n int) []api.Fault {
	faults := make([]api.Fault, n)
	for i := range faults {
		faults[i] = api.Fault{At: i, Kind: 1 + i%2}
	}
	return faults
}

func TestC2C3FaultsThatMayBe(t *testing.T) {
	image := made(t, nil).Image()
	for _, c := range []struct {
		what   string
		faults []api.Fault
		want   api.Errno
	}{
		{"none", nil, api.OK},
		{"no fault in a list", []api.Fault{}, api.OK},
		{"as many as may be", rising(api.MaxEvents), api.OK},
		{"one too many", rising(api.MaxEvents + 1), api.ErrFault},
		{"the ends", []api.Fault{{At: 0, Kind: 2}, {At: math.MaxInt, Kind: 1}}, api.OK},
		{"below 0", []api.Fault{{At: -1, Kind: 1}}, api.ErrFault},
		{"far below 0", []api.Fault{{At: math.MinInt, Kind: 1}, {At: 0, Kind: 1}}, api.ErrFault},
		{"twice", []api.Fault{{At: 3, Kind: 1}, {At: 3, Kind: 2}}, api.ErrFault},
		{"falling", []api.Fault{{At: 1, Kind: 1}, {At: 5, Kind: 1}, {At: 4, Kind: 1}}, api.ErrFault},
		{"no kind", []api.Fault{{At: 1}}, api.ErrFault},
		{"a kind above", []api.Fault{{At: 1, Kind: 2}, {At: 2, Kind: 3}}, api.ErrFault},
		{"a kind below", []api.Fault{{At: 1, Kind: -1}}, api.ErrFault},
	} {
		x, e := New(small(), nil, c.faults)
		y, f := Load(image, c.faults)
		if e != c.want || f != c.want || (x == nil) != (e != api.OK) || (y == nil) != (f != api.OK) {
			t.Errorf("%s: New %d, Load %d, want %d", c.what, e, f, c.want)
		}
	}
}

func TestC2NewIsAsFromTheFactory(t *testing.T) {
	c := made(t, []int{2, 5, 2})
	if c.Geometry() != small() || c.Dark() || c.Count() != 0 || len(c.Trace()) != 0 {
		t.Errorf("a new chip: %v, dark %v, %d taken, trace %v", c.Geometry(), c.Dark(), c.Count(), c.Trace())
	}
	for b := range 8 {
		bad := b == 2 || b == 5
		if m, e := c.Marked(b); m != bad || e != api.OK {
			t.Errorf("Marked(%d) = %v, %d", b, m, e)
		}
		for p := range 4 {
			if !isEven(reads(t, c, place(b, p)), 255) {
				t.Errorf("a bit of the page %d %d is 0", b, p)
			}
			if e := c.Flip(place(b, p), 0); e != api.ErrFlip {
				t.Errorf("the page %d %d holds: %d", b, p, e)
			}
		}
		want := api.OK
		if bad {
			want = api.ErrRule
		}
		if e := c.Program(place(b, 0), even(0)); e != want {
			t.Errorf("the first page of the block %d: %d, want %d", b, e, want)
		}
	}
}

func TestC3LoadRefuses(t *testing.T) {
	whole := made(t, []int{1}).Image()
	for what, change := range map[string]func(m *api.Image){
		"a geometry that may not be": func(m *api.Image) { m.G.Blocks = 7 },
		"no geometry":                func(m *api.Image) { m.G = api.Geometry{} },
		"a great geometry":           func(m *api.Image) { m.G.Pages = math.MaxInt },
		"a byte too few":             func(m *api.Image) { m.Cells = m.Cells[1:] },
		"a byte too many":            func(m *api.Image) { m.Cells = append(slices.Clone(m.Cells), 0) },
		"no bytes":                   func(m *api.Image) { m.Cells = nil },
		"a mark too few":             func(m *api.Image) { m.Marks = m.Marks[1:] },
		"a mark too many":            func(m *api.Image) { m.Marks = append(slices.Clone(m.Marks), false) },
		"no marks":                   func(m *api.Image) { m.Marks = nil },
	} {
		m := whole
		change(&m)
		for _, faults := range [][]api.Fault{nil, {{Kind: 9}}} {
			if c, e := Load(m, faults); c != nil || e != api.ErrImage {
				t.Errorf("%s: %d", what, e)
			}
		}
	}
	if c, e := Load(whole, []api.Fault{{Kind: 9}}); c != nil || e != api.ErrFault {
		t.Errorf("a wrong fault: %d", e)
	}
}

func TestC3Load(t *testing.T) {
	for _, sectors := range []int{1, 8} {
		g := api.Geometry{Blocks: 9, Pages: 5, Sectors: sectors}
		m := api.Image{G: g, Cells: make([]byte, 45*bitsOfPage(g)/8), Marks: make([]bool, 9)}
		rand.New(rand.NewSource(1)).Read(m.Cells)
		m.Marks[0], m.Marks[8] = true, true
		c, e := Load(m, nil)
		if e != api.OK || c.Geometry() != g || c.Dark() || c.Count() != 0 || len(c.Trace()) != 0 {
			t.Fatalf("Load: %d", e)
		}
		if !sameImage(c.Image(), m) {
			t.Error("the image of a loaded chip is another one")
		}
		size := bitsOfPage(g) / 8
		for i := range 45 {
			if p := place(i/5, i%5); !bytes.Equal(reads(t, c, p), m.Cells[i*size:(i+1)*size]) || c.Flip(p, 0) != api.ErrFlip {
				t.Errorf("the page %v reads otherwise, or holds", p)
			}
		}
		page := somePage(rand.New(rand.NewSource(2)), g)
		expect(t, "no block is ready", []api.Errno{c.Program(place(5, 0), page), c.Erase(8), c.Erase(5), c.Program(place(5, 0), page), c.Program(place(6, 0), page)},
			api.ErrRule, api.ErrRule, api.OK, api.OK, api.ErrRule)
		if c.Count() != 2 || len(c.Trace()) != 5 {
			t.Errorf("%d taken, trace %v", c.Count(), c.Trace())
		}
	}
}

func TestC4InTheDark(t *testing.T) {
	c := made(t, []int{6}, api.Fault{At: 1, Kind: api.FaultCut})
	expect(t, "ahead", []api.Errno{c.Program(place(0, 0), even(7)), c.Mark(3)}, api.OK, api.ErrOff)
	if !c.Dark() {
		t.Fatal("the power is on behind a cut")
	}
	trace, image := c.Trace(), c.Image()
	if page, e := c.Read(place(0, 0)); e != api.ErrOff || page.Data != nil || page.Spare != nil {
		t.Errorf("Read: %d", e)
	}
	if m, e := c.Marked(6); m || e != api.ErrOff {
		t.Errorf("Marked: %v, %d", m, e)
	}
	_, far := c.Read(place(8, 0))
	_, none := c.Marked(-1)
	expect(t, "in the dark", []api.Errno{far, none, c.Program(place(1, 0), even(0)), c.Program(place(9, 9), api.Page{}), c.Erase(0), c.Erase(9), c.Erase(6), c.Mark(1), c.Mark(-1)},
		slices.Repeat([]api.Errno{api.ErrOff}, 9)...)
	if !slices.Equal(c.Trace(), trace) || c.Count() != 2 || !sameImage(c.Image(), image) || !c.Dark() || c.Geometry() != small() {
		t.Error("something was done in the dark")
	}
	expect(t, "Flip needs no power", []api.Errno{c.Flip(place(0, 0), 0), c.Flip(place(0, 0), 1), c.Flip(place(8, 0), 1)}, api.OK, api.ErrFlip, api.ErrPlace)
	if c.Image().Cells[0] != 6 {
		t.Errorf("the flipped byte: %d", c.Image().Cells[0])
	}
	c.On()
	if c.Dark() || c.Count() != 2 || !slices.Equal(c.Trace(), trace) || reads(t, c, place(0, 0))[0] != 6 {
		t.Error("On changes more than the power")
	}
	c.On()
	expect(t, "behind", []api.Errno{c.Program(place(0, 1), even(7)), c.Erase(3)}, api.OK, api.OK)
	if c.Dark() {
		t.Error("dark behind On")
	}
}

func TestC5PlacesThatAreNot(t *testing.T) {
	c := made(t, nil)
	for _, p := range []api.Place{place(8, 0), place(-1, 0), place(0, 4), place(0, -1), place(math.MaxInt, math.MaxInt), place(math.MinInt, math.MinInt)} {
		if page, e := c.Read(p); e != api.ErrPlace || page.Data != nil || page.Spare != nil {
			t.Errorf("Read(%v): %d", p, e)
		}
	}
	for _, b := range []int{8, -1, math.MaxInt, math.MinInt} {
		if m, e := c.Marked(b); m || e != api.ErrPlace {
			t.Errorf("Marked(%d) = %v, %d", b, m, e)
		}
	}
	if len(c.Trace()) != 0 {
		t.Error("looking stands in the trace")
	}
}

func TestC6ProgramRefuses(t *testing.T) {
	c := made(t, []int{2})
	for _, page := range []api.Page{{}, {Data: even(0).Data}, {Spare: even(0).Spare}, {Data: make([]byte, 255), Spare: make([]byte, 57)}, {Data: make([]byte, 257), Spare: make([]byte, 57)}, {Data: make([]byte, 256), Spare: make([]byte, 56)}, {Data: make([]byte, 256), Spare: make([]byte, 58)}, {Data: make([]byte, 257), Spare: make([]byte, 56)}} {
		expect(t, "ErrPage first", []api.Errno{c.Program(place(0, 0), page), c.Program(place(9, 0), page), c.Program(place(2, 0), page)}, api.ErrPage, api.ErrPage, api.ErrPage)
	}
	if len(c.Trace()) != 0 || c.Count() != 0 {
		t.Error("ErrPage stands in the trace")
	}
	for _, p := range []api.Place{place(8, 0), place(-1, 0), place(0, 4), place(0, -1), place(2, 4), place(math.MaxInt, 0), place(0, math.MinInt)} {
		if e := c.Program(p, even(0)); e != api.ErrPlace || c.Trace()[len(c.Trace())-1] != (api.Command{Kind: api.CmdProgram, Block: p.Block, Page: p.Page, Status: api.ErrPlace}) {
			t.Errorf("Program(%v): %d, trace %v", p, e, c.Trace())
		}
	}
	expect(t, "the rules", []api.Errno{
		c.Program(place(2, 3), even(0)),
		c.Program(place(0, 1), even(1)), c.Program(place(0, 0), even(0)), c.Program(place(0, 1), even(0)),
		c.Program(place(0, 3), even(3)), c.Program(place(0, 3), even(0)), c.Program(place(0, 2), even(0)), c.Program(place(1, 0), even(9)),
	}, api.ErrRule, api.OK, api.ErrRule, api.ErrRule, api.OK, api.ErrRule, api.ErrRule, api.OK)
	for p, want := range []byte{255, 1, 255, 3} {
		if !isEven(reads(t, c, place(0, p)), want) {
			t.Errorf("the page %d is not what it was", p)
		}
	}
	if c.Count() != 3 || len(c.Trace()) != 15 {
		t.Errorf("%d taken, %d in the trace", c.Count(), len(c.Trace()))
	}
}

func TestC6FaultsOfPrograms(t *testing.T) {
	cut := api.Fault{At: 0, Kind: api.FaultCut, Mask: []byte{1}}
	fail := api.Fault{At: 3, Kind: api.FaultFail, Mask: append(make([]byte, 256), 0x0F), Fill: 0xF0}
	c := made(t, nil, cut, fail)
	expect(t, "cut", []api.Errno{c.Program(place(0, 0), even(0))}, api.ErrOff)
	c.On()
	if b := reads(t, c, place(0, 0)); b[0] != 254 || !isEven(b[1:], 255) {
		t.Errorf("behind the cut: %v", b[:3])
	}
	expect(t, "behind the cut", []api.Errno{c.Flip(place(0, 0), 0), c.Program(place(0, 0), even(0)), c.Program(place(0, 1), even(0)), c.Program(place(1, 2), even(5))},
		api.ErrFlip, api.ErrRule, api.OK, api.OK)
	expect(t, "failed", []api.Errno{c.Program(place(3, 1), even(0x33)), c.Flip(place(3, 1), 9), c.Program(place(3, 1), even(0)), c.Program(place(3, 2), even(2))},
		api.ErrFailed, api.ErrFlip, api.ErrRule, api.OK)
	b := reads(t, c, place(3, 1))
	if c.Dark() || !isEven(b[:256], 255) || b[256] != 0xF3 || !isEven(b[257:], 0x3F) {
		t.Errorf("behind the failure: dark %v, %v", c.Dark(), b[255:])
	}
	if !slices.Equal(c.Trace(), []api.Command{{Kind: 1, Status: api.ErrOff}, {Kind: 1, Status: api.ErrRule}, {Kind: 1, Page: 1}, {Kind: 1, Block: 1, Page: 2}, {Kind: 1, Block: 3, Page: 1, Status: api.ErrFailed}, {Kind: 1, Block: 3, Page: 1, Status: api.ErrRule}, {Kind: 1, Block: 3, Page: 2}}) {
		t.Errorf("the trace: %v", c.Trace())
	}
}

func TestC6AFaultWithAllOnesStillFails(t *testing.T) {
	c := made(t, nil, api.Fault{Kind: api.FaultFail, Fill: 255})
	if e := c.Program(place(0, 0), even(0x5A)); e != api.ErrFailed || !isEven(reads(t, c, place(0, 0)), 0x5A) || c.Flip(place(0, 0), 0) != api.ErrFlip {
		t.Errorf("a Program that failed and did all: %d", e)
	}
}

func TestC7Erase(t *testing.T) {
	c := made(t, []int{2})
	expect(t, "fill", []api.Errno{c.Program(place(0, 0), even(0)), c.Program(place(0, 3), even(3)), c.Program(place(1, 3), even(4)), c.Flip(place(0, 0), 7), c.Flip(place(1, 3), 7)}, api.OK, api.OK, api.OK, api.OK, api.OK)
	expect(t, "refused", []api.Errno{c.Erase(8), c.Erase(-1), c.Erase(2), c.Erase(math.MinInt)}, api.ErrPlace, api.ErrPlace, api.ErrRule, api.ErrPlace)
	expect(t, "done", []api.Errno{c.Erase(0), c.Flip(place(0, 3), 0)}, api.OK, api.ErrFlip)
	for p := range 4 {
		if !isEven(reads(t, c, place(0, p)), 255) {
			t.Errorf("the page %d is not of ones", p)
		}
	}
	if b := reads(t, c, place(1, 3)); b[0] != 4^128 || !isEven(b[1:], 4) {
		t.Error("the block beside it has changed")
	}
	expect(t, "from the first page on", []api.Errno{c.Program(place(0, 0), even(1)), c.Program(place(0, 3), even(1)), c.Flip(place(0, 0), 7), c.Flip(place(1, 3), 6)}, api.OK, api.OK, api.OK, api.ErrFlip)
	if !slices.Equal(c.Trace()[3:8], []api.Command{{Kind: 2, Block: 8, Status: api.ErrPlace}, {Kind: 2, Block: -1, Status: api.ErrPlace}, {Kind: 2, Block: 2, Status: api.ErrRule}, {Kind: 2, Block: math.MinInt, Status: api.ErrPlace}, {Kind: 2}}) {
		t.Errorf("the trace: %v", c.Trace())
	}
}

func TestC7FaultsOfErases(t *testing.T) {
	for _, kind := range []int{api.FaultFail, api.FaultCut} {
		mask := make([]byte, 313+2)
		mask[312], mask[313] = 3, 0x10
		c := made(t, nil, api.Fault{At: 3, Kind: kind, Mask: mask, Fill: 0x81})
		expect(t, "fill", []api.Errno{c.Program(place(4, 0), even(0)), c.Program(place(4, 1), even(0)), c.Program(place(4, 3), even(0x40)), c.Flip(place(4, 0), 0), c.Flip(place(4, 3), 2048)}, api.OK, api.OK, api.OK, api.OK, api.OK)
		want := api.ErrFailed
		if kind == api.FaultCut {
			want = api.ErrOff
		}
		if e := c.Erase(4); e != want || c.Dark() != (kind == api.FaultCut) {
			t.Errorf("Erase: %d, want %d", e, want)
		}
		c.On()
		first, second := reads(t, c, place(4, 0)), reads(t, c, place(4, 1))
		if !isEven(first[:312], 0) || first[312] != 3 || second[0] != 0x10 || second[1] != 0 || !isEven(second[2:], 0x81) {
			t.Error("the mask was laid otherwise over the pages")
		}
		if !isEven(reads(t, c, place(4, 2)), 255) || !isEven(reads(t, c, place(4, 3)), 0xC1) {
			t.Error("the fill was laid otherwise over the pages")
		}
		expect(t, "not ready, no page holds", []api.Errno{c.Program(place(4, 3), even(0)), c.Program(place(4, 0), even(0)), c.Flip(place(4, 0), 1), c.Flip(place(4, 3), 1), c.Erase(4), c.Program(place(4, 0), even(0))},
			api.ErrRule, api.ErrRule, api.ErrFlip, api.ErrFlip, api.OK, api.OK)
	}
}

func TestC7AFaultWithAllOnesStillFails(t *testing.T) {
	for _, mask := range [][]byte{nil, {7}} {
		c := made(t, nil, api.Fault{At: 1, Kind: api.FaultFail, Mask: mask, Fill: 255})
		expect(t, "erase", []api.Errno{c.Program(place(0, 0), even(0)), c.Erase(0), c.Program(place(0, 0), even(0))}, api.OK, api.ErrFailed, api.ErrRule)
		if want := append(mask, 255)[0]; reads(t, c, place(0, 0))[0] != want || !isEven(reads(t, c, place(0, 0))[1:], 255) {
			t.Errorf("an erase by the mask %v, behind it ones", mask)
		}
	}
}

func TestC8Mark(t *testing.T) {
	c := made(t, []int{5})
	expect(t, "marks", []api.Errno{c.Program(place(3, 0), even(9)), c.Mark(8), c.Mark(-1), c.Mark(3), c.Mark(3), c.Mark(5), c.Program(place(3, 1), even(0)), c.Erase(3)},
		api.OK, api.ErrPlace, api.ErrPlace, api.OK, api.OK, api.OK, api.ErrRule, api.ErrRule)
	for b := range 8 {
		if m, e := c.Marked(b); m != (b == 3 || b == 5) || e != api.OK {
			t.Errorf("Marked(%d) = %v, %d", b, m, e)
		}
	}
	if !isEven(reads(t, c, place(3, 0)), 9) || c.Flip(place(3, 0), 0) != api.OK || c.Count() != 4 {
		t.Error("a mark has changed more than the mark")
	}
	if !slices.Equal(c.Trace()[1:6], []api.Command{{Kind: 3, Block: 8, Status: api.ErrPlace}, {Kind: 3, Block: -1, Status: api.ErrPlace}, {Kind: 3, Block: 3}, {Kind: 3, Block: 3}, {Kind: 3, Block: 5}}) {
		t.Errorf("the trace: %v", c.Trace())
	}
}

func TestC8FaultsOfMarks(t *testing.T) {
	for _, c := range []struct {
		fault api.Fault
		done  bool
	}{
		{api.Fault{Kind: api.FaultFail}, false},
		{api.Fault{Kind: api.FaultFail, Fill: 1}, true},
		{api.Fault{Kind: api.FaultFail, Fill: 254}, false},
		{api.Fault{Kind: api.FaultFail, Mask: []byte{1}}, true},
		{api.Fault{Kind: api.FaultFail, Mask: []byte{254, 255}, Fill: 255}, false},
		{api.Fault{Kind: api.FaultCut, Mask: []byte{255}}, true},
		{api.Fault{Kind: api.FaultCut, Mask: []byte{0, 1}, Fill: 1}, false},
	} {
		for _, bad := range [][]int{nil, {4}} {
			x := made(t, bad, c.fault)
			want := api.ErrFailed
			if c.fault.Kind == api.FaultCut {
				want = api.ErrOff
			}
			if e := x.Mark(4); e != want || x.Dark() != (want == api.ErrOff) {
				t.Errorf("%v: %d, want %d", c.fault, e, want)
			}
			x.On()
			if m, _ := x.Marked(4); m != (c.done || bad != nil) {
				t.Errorf("%v, bad %v: marked %v", c.fault, bad, m)
			}
			if x.Mark(4) != api.OK {
				t.Error("the next Mark did not go well")
			}
		}
	}
}

// TestC9EachBit flips each bit of a page that has a flipped one in each unit, by turns.
func TestC9EachBit(t *testing.T) {
	g := api.Geometry{Blocks: 8, Pages: 4, Sectors: 3}
	units, p := unitsOfPage(g), place(1, 2)
	page := somePage(rand.New(rand.NewSource(3)), g)
	c, e := New(g, nil, nil)
	if e != api.OK {
		t.Fatal(e)
	}
	for bit := 0; bit < len(units); bit += 1 + bit%3 {
		for _, first := range []int{0, 256*8 - 1, 2*256*8 + 5, 3*256*8 + 54*8 - 1} {
			expect(t, "anew", []api.Errno{c.Erase(1), c.Program(p, page), c.Flip(p, first)}, api.OK, api.OK, api.OK)
			want := append(slices.Clone(page.Data), page.Spare...)
			want[first/8] ^= 1 << (first % 8)
			e := c.Flip(p, bit)
			if refused := units[bit] == units[first]; e != api.OK && e != api.ErrFlip || (e == api.ErrFlip) != refused {
				t.Fatalf("Flip(%d) behind Flip(%d): %d", bit, first, e)
			}
			if e == api.OK {
				want[bit/8] ^= 1 << (bit % 8)
			}
			if !bytes.Equal(reads(t, c, p), want) {
				t.Fatalf("Flip(%d) behind Flip(%d) reads otherwise", bit, first)
			}
		}
	}
}

func TestC9FlipRefuses(t *testing.T) {
	c := made(t, nil)
	p := place(0, 1)
	expect(t, "the chapter's", []api.Errno{c.Program(p, even(0)), c.Flip(p, 5), c.Flip(p, 2047), c.Flip(p, 2048), c.Flip(p, 2500), c.Flip(place(0, 0), 1), c.Flip(place(0, 2), 1)},
		api.OK, api.OK, api.ErrFlip, api.OK, api.ErrFlip, api.ErrFlip, api.ErrFlip)
	expect(t, "the same bit again", []api.Errno{c.Flip(p, 5)}, api.ErrFlip)
	expect(t, "no such bit", []api.Errno{c.Flip(p, 2504), c.Flip(p, -1), c.Flip(p, math.MaxInt), c.Flip(p, math.MinInt)}, api.ErrFlip, api.ErrFlip, api.ErrFlip, api.ErrFlip)
	expect(t, "no such page", []api.Errno{c.Flip(place(8, 0), 0), c.Flip(place(-1, 0), -1), c.Flip(place(0, 4), 0), c.Flip(place(0, -1), 9999)}, api.ErrPlace, api.ErrPlace, api.ErrPlace, api.ErrPlace)
	if b := reads(t, c, p); b[0] != 32 || b[256] != 1 || !isEven(b[1:256], 0) || !isEven(b[257:], 0) {
		t.Error("a refused Flip has changed something")
	}
	if c.Count() != 1 || len(c.Trace()) != 1 {
		t.Error("Flip is no writing command")
	}
	q := place(0, 2)
	expect(t, "the last bit of all", []api.Errno{c.Program(q, even(255)), c.Flip(q, 2504), c.Flip(q, -1), c.Flip(q, -2504), c.Flip(q, 2503)}, api.OK, api.ErrFlip, api.ErrFlip, api.ErrFlip, api.OK)
	if b := reads(t, c, q); b[312] != 127 || !isEven(b[:312], 255) {
		t.Errorf("the last byte: %d", b[312])
	}
}

func TestC10ImageTellsFlipsAsTheyRead(t *testing.T) {
	c := made(t, []int{6})
	expect(t, "fill", []api.Errno{c.Program(place(7, 3), even(0)), c.Flip(place(7, 3), 8)}, api.OK, api.OK)
	m := c.Image()
	if m.G != small() || len(m.Cells) != 32*313 || m.Cells[31*313] != 0 || m.Cells[31*313+1] != 1 || !slices.Equal(m.Marks, []bool{6: true, 7: false}) {
		t.Errorf("the image: %v, %d bytes, %v", m.G, len(m.Cells), m.Marks)
	}
	d, e := Load(m, nil)
	if e != api.OK || reads(t, d, place(7, 3))[1] != 1 {
		t.Fatalf("Load: %d", e)
	}
	expect(t, "loaded", []api.Errno{d.Flip(place(7, 3), 9), d.Erase(7), d.Program(place(7, 3), even(0)), d.Flip(place(7, 3), 9)}, api.ErrFlip, api.OK, api.OK, api.OK)
}

func TestC11NothingHandedInIsKept(t *testing.T) {
	bad := []int{3, 9}[:1]
	mask := []byte{15, 99}[:1]
	faults := []api.Fault{{At: 1, Kind: api.FaultFail, Mask: mask}, {At: 9, Kind: api.FaultCut}}[:1]
	c := made(t, bad, faults...)
	bad[0], mask[0] = 4, 0
	faults[0] = api.Fault{At: 0, Kind: api.FaultCut}
	page := even(0)
	if e := c.Program(place(0, 0), page); e != api.OK || !isEven(page.Data, 0) || !isEven(page.Spare, 0) {
		t.Errorf("Program: %d, or the page was changed", e)
	}
	page.Data[0], page.Spare[0] = 77, 77
	if !isEven(reads(t, c, place(0, 0)), 0) {
		t.Error("the page that was handed in was kept")
	}
	if e := c.Program(place(0, 1), even(0)); e != api.ErrFailed || reads(t, c, place(0, 1))[0] != 0xF0 {
		t.Errorf("a fault that was handed in was kept: %d", e)
	}
	if m, _ := c.Marked(3); !m {
		t.Error("bad was kept")
	}
	m := c.Image()
	d, _ := Load(m, nil)
	m.Cells[0], m.Marks[0] = 99, true
	if marked, _ := d.Marked(0); marked || reads(t, d, place(0, 0))[0] != 0 {
		t.Error("the image that was handed in was kept")
	}
	clean := c.Image()
	e, _ := Load(clean, nil)
	e.Erase(0)
	e.Mark(1)
	if !sameImage(clean, c.Image()) {
		t.Error("a loaded chip writes into its image")
	}
}

func TestC11AnswersAreNewMemory(t *testing.T) {
	c := made(t, nil)
	expect(t, "fill", []api.Errno{c.Program(place(0, 0), even(0)), c.Erase(1)}, api.OK, api.OK)
	for _, p := range []api.Place{place(0, 0), place(0, 1)} {
		was := reads(t, c, p)
		page, _ := c.Read(p)
		spare := slices.Clone(page.Spare)
		_ = append(page.Data, 1, 2, 3)
		if !bytes.Equal(page.Spare, spare) {
			t.Error("appending to the data changes the spare")
		}
		page.Data[0], page.Spare[0] = 0x5A, 0x5A
		if !bytes.Equal(reads(t, c, p), was) {
			t.Error("a page that was read is kept")
		}
	}
	trace := c.Trace()
	_ = append(trace[:1], api.Command{Kind: 9})
	m := c.Image()
	m.Cells[0], m.Marks[0] = 9, true
	if c.Trace()[1] != (api.Command{Kind: api.CmdErase, Block: 1}) || c.Image().Cells[0] != 0 || c.Image().Marks[0] {
		t.Error("what was handed out is kept")
	}
	c.Program(place(2, 0), even(0))
	if c.Trace()[1] != (api.Command{Kind: api.CmdErase, Block: 1}) || len(c.Trace()) != 3 {
		t.Errorf("the trace: %v", c.Trace())
	}
}

func TestC11TwoChips(t *testing.T) {
	faults := []api.Fault{{At: 1, Kind: api.FaultCut}}
	a, b := made(t, nil, faults...), made(t, nil, faults...)
	expect(t, "one", []api.Errno{a.Program(place(0, 0), even(0)), a.Flip(place(0, 0), 0), a.Mark(1)}, api.OK, api.OK, api.ErrOff)
	if b.Dark() || b.Count() != 0 || len(b.Trace()) != 0 || !isEven(b.Image().Cells, 255) {
		t.Error("one chip knows of the other")
	}
	expect(t, "the other", []api.Errno{b.Program(place(0, 0), even(0)), b.Flip(place(0, 0), 0), b.Erase(1)}, api.OK, api.OK, api.ErrOff)
}
