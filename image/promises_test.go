package image

import (
	"bytes"
	"math/rand"
	"reflect"
	"slices"
	"testing"

	"shale/api"
	"shale/chip"
)

// nearTo changes a few pages and marks of an image, or none.
func nearTo(r *rand.Rand, m api.Image) api.Image {
	m.Cells, m.Marks = slices.Clone(m.Cells), slices.Clone(m.Marks)
	for range r.Intn(4) {
		m.Cells[r.Intn(len(m.Cells))] = byte(r.Intn(256))
	}
	for range r.Intn(3) {
		m.Marks[r.Intn(len(m.Marks))] = r.Intn(2) == 0
	}
	return m
}

func differ(t *testing.T, a, b api.Image) []api.Place {
	t.Helper()
	l, e := Diff(a, b)
	if e != api.OK {
		t.Fatalf("Diff: %d", e)
	}
	return l
}

// slowDiff asks each page anew.
func slowDiff(t *testing.T, a, b api.Image) []api.Place {
	t.Helper()
	var list []api.Place
	for block := range a.G.Blocks {
		if a.Marks[block] != b.Marks[block] {
			list = append(list, place(block, -1))
		}
		for page := range a.G.Pages {
			x, e := Page(a, place(block, page))
			y, f := Page(b, place(block, page))
			if e != api.OK || f != api.OK {
				t.Fatalf("Page: %d, %d", e, f)
			}
			if !reflect.DeepEqual(x, y) {
				list = append(list, place(block, page))
			}
		}
	}
	return list
}

// P20.4.
func TestP204Diff(t *testing.T) {
	r := rand.New(rand.NewSource(6))
	for range 300 {
		a := someImage(r)
		b := nearTo(r, a)
		c := nearTo(r, b)
		ab, bc, ac := differ(t, a, b), differ(t, b, c), differ(t, a, c)
		if (len(ab) == 0) != alike(a, b) || len(differ(t, a, a)) != 0 {
			t.Fatalf("P20.4: %v of images that are alike: %v", ab, alike(a, b))
		}
		if !slices.Equal(ab, differ(t, b, a)) || !slices.Equal(ab, slowDiff(t, a, b)) {
			t.Fatalf("P20.4: %v, changed about %v, want %v", ab, differ(t, b, a), slowDiff(t, a, b))
		}
		for _, p := range ac {
			if !slices.Contains(ab, p) && !slices.Contains(bc, p) {
				t.Fatalf("P20.4: a and c differ at %v, of b neither does", p)
			}
		}
	}
}

// someCommand gives a chip a command, and tells its block.
func someCommand(r *rand.Rand, c *chip.Chip) int {
	g := c.Geometry()
	block := r.Intn(g.Blocks)
	data, spare := sizes(g)
	switch r.Intn(12) {
	case 0:
		c.Mark(block)
	case 1, 2:
		c.Erase(block)
	case 3:
		c.Flip(place(block, r.Intn(g.Pages)), r.Intn(8*(data+spare)))
	default:
		b := somePage(r, data, spare)
		c.Program(place(block, r.Intn(g.Pages)), api.Page{Data: b[:data], Spare: b[data:]})
	}
	c.On()
	return block
}

// P20.5, P11: what a chip tells may be, and comes back; behind a command only its block differs.
func TestP205Chip(t *testing.T) {
	for seed := range int64(20) {
		r := rand.New(rand.NewSource(seed))
		g := shape(8+r.Intn(3), 4+r.Intn(3), 1+r.Intn(2))
		var faults []api.Fault
		for n := range 100 {
			if r.Intn(4) == 0 {
				faults = append(faults, api.Fault{At: n, Kind: 1 + r.Intn(2), Mask: []byte{byte(r.Intn(256))}, Fill: byte(r.Intn(256))})
			}
		}
		c, e := chip.New(g, []int{r.Intn(g.Blocks)}, faults)
		if e != api.OK {
			t.Fatal(e)
		}
		before := c.Image()
		for range 120 {
			block := someCommand(r, c)
			after := c.Image()
			if e := Check(after); e != api.OK {
				t.Fatalf("P20.5: Check of a chip's image: %d", e)
			}
			for _, p := range differ(t, before, after) {
				if p.Block != block {
					t.Fatalf("P20.5: a command of the block %d changes %v", block, p)
				}
			}
			before = after
		}
		b := packed(t, before)
		m, e := Read(b)
		if e != api.OK || !bytes.Equal(packed(t, before), b) {
			t.Fatalf("P20.5: Read: %d", e)
		}
		loaded, e := chip.Load(m, nil)
		if e != api.OK || !alike(loaded.Image(), before) {
			t.Fatalf("P20.5: the chip that is loaded has another image: %d", e)
		}
	}
}

// P20.6: what is handed in is as it was, its spare room too.
func TestP206HandedIn(t *testing.T) {
	r := rand.New(rand.NewSource(7))
	for range 20 {
		m := someImage(r)
		cells := append(slices.Clone(m.Cells), 1, 2, 3)
		marks := append(slices.Clone(m.Marks), true, false)
		m.Cells, m.Marks = cells[:len(m.Cells)], marks[:len(m.Marks)]
		wasCells, wasMarks := slices.Clone(cells), slices.Clone(marks)
		row := packed(t, m)
		long := append(slices.Clone(row), 4, 5, 6)
		wasLong := slices.Clone(long)
		Check(m)
		Page(m, place(1, 1))
		Diff(m, m)
		Read(long[:len(row)])
		if !bytes.Equal(cells, wasCells) || !slices.Equal(marks, wasMarks) || !bytes.Equal(long, wasLong) {
			t.Fatal("P20.6: what was handed in has changed")
		}
	}
}

// P20.6: what is told is new memory, and nothing of it is shared.
func TestP206New(t *testing.T) {
	g := small()
	m := marked(ofPages(g, sheet(g, 7, 5), sheet(g, 7, 5), sheet(g, 3)), 2)
	was := nearTo(rand.New(rand.NewSource(1)), m)
	was.Cells, was.Marks = slices.Clone(m.Cells), slices.Clone(m.Marks)
	row := packed(t, m)
	wasRow := slices.Clone(row)
	got, e := Read(row)
	if e != api.OK {
		t.Fatal(e)
	}
	clear(append(got.Cells, 9))
	clear(got.Cells)
	clear(append(got.Marks, true))
	clear(got.Marks)
	if again, e := Read(row); e != api.OK || !alike(again, was) || !bytes.Equal(row, wasRow) {
		t.Errorf("P20.6: what Read told is shared: %d", e)
	}
	p, _ := Page(m, place(0, 0))
	spare := slices.Clone(p.Spare)
	clear(append(p.Data, make([]byte, 100)...))
	if !bytes.Equal(p.Spare, spare) {
		t.Error("P20.6: a page's data and spare are shared")
	}
	clear(p.Data)
	clear(p.Spare)
	clear(packed(t, m))
	l := differ(t, m, ofPages(g))
	clear(l)
	if !alike(m, was) {
		t.Error("P20.6: what was told is shared with the image")
	}
	if !slices.Equal(differ(t, m, ofPages(g)), []api.Place{place(0, 0), place(0, 1), place(0, 2), place(2, -1)}) {
		t.Error("P20.6: what Diff told is kept")
	}
}

// R3: no bytes and nil are one.
func TestNilIsEmpty(t *testing.T) {
	if _, e := Read([]byte{}); e != api.ErrMagic {
		t.Errorf("Read: %d", e)
	}
	if e := Check(api.Image{G: small(), Cells: []byte{}, Marks: []bool{}}); e != api.ErrImage {
		t.Errorf("Check: %d", e)
	}
}
