package scan

import (
	"math/rand"
	"reflect"
	"slices"
	"testing"

	"shale/api"
	"shale/blocks"
	"shale/chip"
	"shale/leaf"
	"shale/words"
)

func loaded(t *testing.T, m api.Image, faults ...api.Fault) *chip.Chip {
	t.Helper()
	c, e := chip.Load(m, faults)
	if e != api.OK {
		t.Fatalf("Load: %d", e)
	}
	return c
}

// lives are chips that logs have written, some of them through failures and cuts.
func lives(t *testing.T, n int, each func(r *rand.Rand, c *chip.Chip)) {
	t.Helper()
	for seed := range int64(n) {
		r := rand.New(rand.NewSource(seed))
		var faults []api.Fault
		for at := 6 + r.Intn(30); seed%3 > 0 && len(faults) < 12; at += 1 + r.Intn(30) {
			kind := api.FaultCut
			if seed%3 == 2 {
				kind = 1 + r.Intn(2)
			}
			faults = append(faults, api.Fault{At: at, Kind: kind, Mask: someBytes(r, r.Intn(3)*400), Fill: someOf[byte](r, 0, 255)})
		}
		g := someOf(r, shape(12, 4, 1), shape(14, 5, 1), shape(13, 4, 2), shape(9, 9, 1))
		each(r, written(t, r, g, 5+r.Intn(120), faults...))
	}
}

// torn is an image in some of whose blank pages a Program was broken off, so that they are not whole.
func torn(t *testing.T, r *rand.Rand, m api.Image) api.Image {
	t.Helper()
	size := len(m.Cells) / (m.G.Blocks * m.G.Pages)
	for n := range m.G.Blocks * m.G.Pages {
		cell := m.Cells[n*size : (n+1)*size]
		if words.Zeros(cell) > 0 || r.Intn(3) > 0 {
			continue
		}
		x := someSheet(r, at(n/m.G.Pages, n%m.G.Pages))
		x.tags.Count = len(x.data)
		x.tags.Serial += 1 << 40
		page, e := leaf.Build(m.G, x.tags, x.data)
		if e != api.OK {
			t.Fatal(e)
		}
		left, _ := words.Fall(cell, words.Join(page.Data, page.Spare), someBytes(r, r.Intn(size)), someOf[byte](r, 0, 255))
		look, _ := leaf.Open(m.G, api.Page{Data: left[:256*m.G.Sectors], Spare: left[256*m.G.Sectors:]})
		if look.State != api.LookWhole {
			copy(cell, left)
		}
	}
	return m
}

// S6: what a crash leaves changes nothing but Next and Cursor.
func TestS6CrashesLeaveTheSame(t *testing.T) {
	erases, tears := 0, 0
	lives(t, 60, func(r *rand.Rand, c *chip.Chip) {
		want := mounted(t, c)
		m := torn(t, r, c.Image())
		sameTree(t, "with torn pages", mounted(t, loaded(t, m)), want)
		tears++
		for b, x := range want.Blocks {
			if x.State != api.BlockFree {
				continue
			}
			again := loaded(t, m, api.Fault{Kind: 1 + r.Intn(2), Mask: someBytes(r, r.Intn(1500)), Fill: someOf[byte](r, 0, 0, 0, 1, 255)})
			again.Erase(b)
			again.On()
			sameTree(t, "behind an erase that was broken off", mounted(t, again), want)
			m = again.Image()
			erases++
		}
	})
	if erases < 150 || tears < 60 {
		t.Errorf("%d erases, %d tears", erases, tears)
	}
}

// S6, P9: flipped bits change nothing at all.
func TestS6Flips(t *testing.T) {
	lives(t, 30, func(r *rand.Rand, c *chip.Chip) {
		want, ahead := mounted(t, c), places(first(Leaves(c)))
		g := c.Geometry()
		flips := 0
		for range 2000 {
			if c.Flip(at(r.Intn(g.Blocks), r.Intn(g.Pages)), r.Intn(8*(259*g.Sectors+54))) == api.OK {
				flips++
			}
		}
		if got := mounted(t, c); flips < 8 || !reflect.DeepEqual(got, want) {
			t.Fatalf("behind %d flips: %v, want %v", flips, got, want)
		}
		if got := places(first(Leaves(c))); !slices.Equal(got, ahead) {
			t.Fatalf("behind %d flips the leaves are %v", flips, got)
		}
	})
}

func first(list []Leaf, _ api.Errno) []Leaf { return list }

// S7: behind a Format that was cut there is what was there ahead, or nothing.
func TestS7FormatCut(t *testing.T) {
	same, empty := 0, 0
	lives(t, 12, func(r *rand.Rand, c *chip.Chip) {
		m, want := c.Image(), mounted(t, c)
		for at := range 8 {
			for range 12 {
				var faults []api.Fault
				for n := range at {
					if r.Intn(2) == 0 {
						faults = append(faults, api.Fault{At: n, Kind: api.FaultFail, Mask: someBytes(r, r.Intn(400)), Fill: someOf[byte](r, 0, 255)})
					}
				}
				faults = append(faults, api.Fault{At: at, Kind: api.FaultCut, Mask: someBytes(r, r.Intn(2)*400), Fill: someOf[byte](r, 0, 1, 255)})
				again := loaded(t, m, faults...)
				if Format(again) != api.ErrOff {
					continue
				}
				again.On()
				if got := mounted(t, again); got.Floor == want.Floor {
					isAsAhead(t, got, want)
					same++
				} else {
					isEmpty(t, got)
					empty++
				}
			}
		}
	})
	if same < 200 || empty < 50 {
		t.Errorf("%d times as ahead, %d times empty", same, empty)
	}
}

// isAsAhead fails unless a state is one that was ahead, but for Next, Cursor, and blocks that are marked or free by now.
func isAsAhead(t *testing.T, got, want api.State) {
	t.Helper()
	for n, x := range got.Blocks {
		if x == (api.Block{}) || x == (api.Block{State: api.BlockBad}) {
			want.Blocks = slices.Clone(want.Blocks)
			want.Blocks[n] = x
		}
	}
	sameTree(t, "behind a Format that was cut", got, want)
}

func isEmpty(t *testing.T, got api.State) {
	t.Helper()
	want := api.State{Floor: got.Floor, Next: got.Floor + 1, Cursor: got.Last, Last: got.Last, Blocks: slices.Clone(got.Blocks)}
	for n, x := range want.Blocks {
		if x.State != api.BlockBad {
			want.Blocks[n] = api.Block{}
		}
	}
	want.Blocks[got.Last].State = api.BlockHeld
	sameTree(t, "an empty file system", got, want)
}

// S8: what is current counts; and the blocks may be a chip's blocks.
func TestS8(t *testing.T) {
	lives(t, 60, func(r *rand.Rand, c *chip.Chip) {
		s := mounted(t, c)
		counted := places(first(Counted(c)))
		for _, o := range s.Objects {
			if !slices.Contains(counted, o.Place) {
				t.Fatalf("the header of %d does not count", o.Id)
			}
			for _, k := range o.Chunks {
				if !slices.Contains(counted, k.Piece.Place) {
					t.Fatalf("the chunk %d of %d does not count", k.Chunk, o.Id)
				}
			}
		}
		if _, e := blocks.New(c.Geometry(), s.Blocks, s.Cursor, s.Last); e != api.OK {
			t.Fatalf("the blocks %v, %d, %d may not be: %d", s.Blocks, s.Cursor, s.Last, e)
		}
		keepsRules(t, c)
	})
	for seed := range int64(200) {
		c := scribbled(t, rand.New(rand.NewSource(seed)))
		counted := places(first(Counted(c)))
		s, _ := Mount(c)
		for _, o := range s.Objects {
			if !slices.Contains(counted, o.Place) {
				t.Fatalf("the header of %d does not count", o.Id)
			}
		}
	}
}

// A mount behind a mount finds the same; a log goes on with it, and Format behind it makes it empty, by the same commands again (P11).
func TestP11FormatAgain(t *testing.T) {
	lives(t, 20, func(r *rand.Rand, c *chip.Chip) {
		m := c.Image()
		a, b := loaded(t, m, fails(1, 3)...), loaded(t, m, fails(1, 3)...)
		if !reflect.DeepEqual(mounted(t, a), mounted(t, c)) {
			t.Fatal("an image is mounted as something else")
		}
		if e, f := Format(a), Format(b); e != f || !slices.Equal(a.Trace(), b.Trace()) || !reflect.DeepEqual(a.Image(), b.Image()) {
			t.Fatalf("Format: %d and %d, %v and %v", e, f, a.Trace(), b.Trace())
		}
		if s, e := Mount(a); e == api.OK && s.Blocks[s.Last].State == api.BlockHeld {
			isEmpty(t, s)
		}
	})
}

// R1: whatever the cells are, each call ends; and tells what the model does.
func TestR1AnyCells(t *testing.T) {
	for seed := range int64(20) {
		r := rand.New(rand.NewSource(seed))
		c := newChip(t, small(), nil)
		m := c.Image()
		r.Read(m.Cells)
		for i := range m.Marks {
			m.Marks[i] = r.Intn(3) == 0
		}
		model{t, loaded(t, m)}.agrees("any cells")
		if e := Format(loaded(t, m)); e != api.OK && e != api.ErrBroken {
			t.Errorf("Format: %d", e)
		}
	}
}
