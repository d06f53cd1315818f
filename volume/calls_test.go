package volume

import (
	"bytes"
	"math"
	"math/rand"
	"strconv"
	"strings"
	"testing"

	"shale/api"
	"shale/chip"
)

// V13: behind a cut, what would make a step answers ErrOff, if it has to read a page first, else ErrHalted; what makes none goes on, but pages can't be read.
func TestV13BehindACut(t *testing.T) {
	b := begun(t, small(), api.Fault{At: 10, Kind: api.FaultCut})
	b.makes(2, fileIn(1, "a"), dirIn(1, "d"))
	b.writes(2, 0, "abc")
	b.is("Unlink", b.Unlink(3), api.OK)
	b.is("the step that is cut", b.Set(2, 1, 1), api.ErrOff)
	b.seen = len(b.c.Trace())
	for range 2 { // also with the power on again: this life is over
		if _, e := b.Make(fileIn(1, "n")); e != api.ErrHalted {
			t.Errorf("Make: %d", e)
		}
		b.is("Cut to a header", b.Cut(2, 0), api.ErrHalted)
		b.is("Move", b.Move(2, 1, "m"), api.ErrHalted)
		b.is("Unlink", b.Unlink(2), api.ErrHalted)
		b.is("Set", b.Set(2, 1, 1), api.ErrHalted)
		if n, e := b.Write(2, 256, []byte("hole")); n != 0 || e != api.ErrHalted {
			t.Errorf("Write into a hole: %d, %d", n, e)
		}
		if is, e := b.Sync(); is || e != api.OK {
			t.Errorf("Sync: %v, %d", is, e)
		}
		b.is("Set as it is", b.Set(2, 420, 7), api.OK)
		b.is("Cut as it is", b.Cut(2, 3), api.OK)
		b.is("Move to where it is", b.Move(2, 1, "a"), api.OK)
		if n, e := b.Write(2, 1, nil); n != 0 || e != api.OK {
			t.Errorf("Write without bytes: %d, %d", n, e)
		}
		if _, e := b.Make(fileIn(1, "a")); e != api.ErrExists {
			t.Errorf("Make of what is there: %d", e)
		}
		if id, e := b.Find(1, "a"); id != 2 || e != api.OK {
			t.Errorf("Find: %d, %d", id, e)
		}
		b.has(2, api.Node{Type: api.TypeFile, Parent: 1, Name: "a", Size: 3, Mode: 420, Stamp: 7})
		b.reads(2, 3, 9, "")
		b.reads(2, 0, 0, "")
		b.readsHalted()
		b.c.On()
	}
	b.is("Forget", b.Forget(3), api.OK)
	b.gives("a life that is over")
	again := b.again()
	again.reads(2, 0, 9, "abc")
	again.is("the next life", again.Set(2, 1, 1), api.OK)
}

// readsHalted: a page can be read as long as there is power.
func (b *bench) readsHalted() {
	b.t.Helper()
	if !b.c.Dark() {
		b.reads(2, 1, 9, "bc")
		if n, e := b.Write(2, 0, []byte("x")); n != 0 || e != api.ErrHalted {
			b.t.Errorf("Write: %d, %d", n, e)
		}
		b.is("Cut in the midst", b.Cut(2, 1), api.ErrHalted)
		return
	}
	if got, e := b.Read(2, 1, 9); got != nil || e != api.ErrOff {
		b.t.Errorf("Read without power: %v, %d", got, e)
	}
	if n, e := b.Write(2, 0, []byte("x")); n != 0 || e != api.ErrOff {
		b.t.Errorf("Write without power: %d, %d", n, e)
	}
	b.is("Cut in the midst without power", b.Cut(2, 1), api.ErrOff)
}

// V13: behind a step that has answered ErrBroken.
func TestV13BehindBroken(t *testing.T) {
	var faults []api.Fault
	for at := 5; at < 60; at++ {
		faults = append(faults, api.Fault{At: at, Kind: api.FaultFail})
	}
	b := begun(t, small(), faults...)
	b.makes(2, fileIn(1, "a"))
	if n, e := b.Write(2, 0, []byte("abc")); n != 0 || e != api.ErrBroken {
		t.Fatalf("Write without a block: %d, %d", n, e)
	}
	b.has(2, fileIn(1, "a"))
	b.reads(2, 0, 9, "")
	if n, e := b.Write(2, 0, []byte("abc")); n != 0 || e != api.ErrHalted {
		t.Errorf("Write: %d, %d", n, e)
	}
	b.is("Set", b.Set(2, 1, 1), api.ErrHalted)
	b.is("Set as it is", b.Set(2, 420, 7), api.OK)
	if is, e := b.Sync(); is || e != api.OK {
		t.Errorf("Sync: %v, %d", is, e)
	}
}

// V14: of a Write that ends in its midst, whatever ends it, the bytes are there that the answer tells.
func TestV14Prefix(t *testing.T) {
	data := strings.Repeat("0123456789", 300)
	ends := map[api.Errno]int{}
	for k := 5; k < 40; k++ {
		for _, f := range []api.Fault{{At: k, Kind: api.FaultCut}, {At: k, Kind: api.FaultFail, Fill: 255}} {
			faults := []api.Fault{f}
			for f.Kind == api.FaultFail && len(faults) < 60 { // till no block is left
				next := f
				next.At += len(faults)
				faults = append(faults, next)
			}
			b := begun(t, small(), faults...)
			b.makes(2, fileIn(1, "a"))
			n, e := b.Write(2, 77, []byte(data))
			ends[e]++
			want := api.Node{Type: api.TypeFile, Parent: 1, Name: "a", Mode: 420, Stamp: 7}
			if n > 0 {
				want.Size = 77 + n
			}
			b.has(2, want)
			if n != len(data) && (n > 0 && (n+77)%256 != 0 || e == api.OK) {
				t.Errorf("%v: %d bytes, %d", f, n, e)
			}
			if b.c.Dark() {
				b = b.again()
			}
			if got, e := b.Read(2, 0, 77+n); e != api.OK || n > 0 && string(got) != zeros(77)+data[:n] {
				t.Errorf("%v: %d bytes were told: %q, %d", f, n, got, e)
			}
		}
	}
	if ends[api.ErrOff] < 10 || ends[api.ErrBroken] < 10 {
		t.Errorf("answers %v", ends)
	}
}

// churn writes and unlinks till all blocks were cleaned some times.
func (b *bench) churn(rounds int) {
	b.t.Helper()
	blocks := b.c.Geometry().Blocks
	for i := range rounds * blocks * b.c.Geometry().Pages {
		id, e := b.Make(fileIn(1, "churn"+strconv.Itoa(i)))
		if e != api.OK {
			b.t.Fatalf("Make: %d", e)
		}
		b.writes(id, 0, strings.Repeat("c", 300))
		b.is("Unlink", b.Unlink(id), api.OK)
		b.is("Forget", b.Forget(id), api.OK)
	}
}

// P5: what was cut off, or never written, reads as 0 when the file is made longer, and what went does not come again: at once, behind a mount, a checkpoint, a cut, and when blocks were cleaned.
func TestP5NeverAgain(t *testing.T) {
	between := map[string]func(b *bench) *bench{
		"at once":             func(b *bench) *bench { return b },
		"behind a mount":      (*bench).again,
		"behind a checkpoint": func(b *bench) *bench { b.Sync(); return b.again() },
		"behind cleans":       func(b *bench) *bench { b.churn(2); return b },
		"behind cleans and a mount": func(b *bench) *bench {
			b.churn(2)
			return b.again()
		},
	}
	for what, wait := range between {
		for size := range 600 {
			if size > 5 && size%64 > 1 && size < 590 {
				continue
			}
			b := begun(t, small())
			b.makes(2, fileIn(1, "a"), fileIn(1, "gone"), fileIn(1, "old"), fileIn(1, "new"))
			b.writes(2, 0, strings.Repeat("a", 600))
			b.writes(4, 0, "old bytes")
			b.is("Unlink", b.Unlink(3), api.OK)
			b.is("Move", b.Move(5, 1, "old"), api.OK)
			b.is("Forget", b.Forget(3), api.OK)
			b.is("Forget", b.Forget(4), api.OK)
			b.is("Cut", b.Cut(2, size), api.OK)
			b = wait(b)
			b.reads(2, 0, 999, strings.Repeat("a", size))
			b.is("Cut", b.Cut(2, 700), api.OK)
			b = wait(b)
			b.reads(2, 0, 999, strings.Repeat("a", size)+zeros(700-size))
			b.writes(2, 899, "z")
			b.reads(2, 0, 999, strings.Repeat("a", size)+zeros(899-size)+"z")
			if id, e := b.Find(1, "gone"); e != api.ErrMissing {
				t.Errorf("%s: what was unlinked is there: %d, %d", what, id, e)
			}
			if id, e := b.Find(1, "old"); id != 5 || e != api.OK {
				t.Errorf("%s: what was replaced is there: %d, %d", what, id, e)
			}
			b.makes(3, fileIn(1, "gone"), fileIn(1, "older")) // their numbers again, and nothing of their bytes
			b.reads(4, 0, 99, "")
			b.is("Cut", b.Cut(4, 20), api.OK)
			b.reads(4, 0, 99, zeros(20))
		}
	}
}

// shortened writes a file's 600 bytes, cuts it to 300, writes till blocks are cleaned, and makes it longer.
func (b *bench) shortened() {
	b.t.Helper()
	b.Write(2, 0, bytes.Repeat([]byte("a"), 600))
	b.Cut(2, 300)
	for i := range 60 {
		b.Set(2, i, 9)
	}
	b.Cut(2, 700)
}

// P5 through any cut: whichever command it meets, no byte that was cut off is seen again.
func TestP5ThroughCuts(t *testing.T) {
	plain := begun(t, small())
	plain.makes(2, fileIn(1, "a"))
	plain.shortened()
	for k := 5; k < plain.c.Count(); k++ {
		for _, fill := range []byte{0, 255, 170} {
			b := begun(t, small(), api.Fault{At: k, Kind: api.FaultCut, Fill: fill})
			b.makes(2, fileIn(1, "a"))
			b.shortened()
			b = b.again()
			n, e := b.Node(2)
			had := n.Size // of the first Write a part; or all behind the first Cut
			if n.Size == 700 {
				had = 300
			}
			if e != api.OK || n.Size == 600 && n.Mode != 420 || n.Mode < 60 && n.Size != 300 && n.Size != 700 {
				t.Fatalf("cut at %d: %v, %d", k, n, e)
			}
			b.reads(2, 0, 999, strings.Repeat("a", had)+zeros(n.Size-had))
			b.is("Cut", b.Cut(2, 900), api.OK)
			b.reads(2, 0, 999, strings.Repeat("a", had)+zeros(900-had))
		}
	}
}

// R4: what is handed in is neither changed nor kept, its spare room included; what is told is new memory.
func TestR4Memory(t *testing.T) {
	b := grove(t)
	room := []byte("0123456789")
	data := room[2:5]
	if n, e := b.Write(2, 250, data); n != 3 || e != api.OK || string(room) != "0123456789" {
		t.Errorf("Write: %d, %d, %q", n, e, room)
	}
	data[0] = 'X'
	b.reads(2, 250, 9, "234")
	one, _ := b.Read(2, 250, 9)
	one[0] = 'Y'
	one = append(one, "more"...)
	b.reads(2, 250, 9, "234")
	list, _ := b.List(1)
	list[0].Name = "changed"
	if again, _ := b.List(1); again[0].Name != "d" {
		t.Errorf("List: %v", again)
	}
	s := b.State()
	s.Blocks[0].Live, s.Objects[0].Id, s.Objects[0].Chunks[0].Chunk = 77, 77, 77
	if s := b.State(); s.Blocks[0].Live == 77 || s.Objects[0].Id != 2 || s.Objects[0].Chunks[0].Chunk != 0 {
		t.Errorf("State: %v", s)
	}
}

// R1, R5: whatever a call is given, it ends, and one that is refused changes nothing.
func TestR1WhateverItIsGiven(t *testing.T) {
	numbers := []int{math.MinInt, -1, 0, 1, 2, 3, 4, 6, 7, 10, 255, 256, 1 << 20, 1 << 28, 1<<28 + 1, 1 << 62, math.MaxInt}
	b := grove(t)
	m := newModel(roomy())
	for _, x := range b.State().Objects {
		m.things[x.Id] = thing{node: x.Node, pages: map[int]int{}}
	}
	r := rand.New(rand.NewSource(1))
	ops := []string{"node", "find", "list", "make", "read", "write", "cut", "move", "unlink", "forget", "set"}
	refused := 0
	for range 30000 {
		c := call{op: someOf(r, ops...), id: someOf(r, numbers...), at: someOf(r, numbers...), n: someOf(r, numbers...), name: someName(r), data: someOf(r, "", "x")}
		c.node = someOf(r, fileIn, dirIn, linkIn)(someOf(r, numbers...), someName(r))
		c.node.Size, c.node.Shadow, c.node.Mode = someOf(r, numbers...), someOf(r, numbers...), someOf(r, numbers...)
		if c.op == "cut" && c.n > 4096 && c.n <= 1<<28 || c.op == "write" && c.at > 4096 && c.at < 1<<28 {
			continue // as great a file as may be is not for the model
		}
		want := m.do(c)
		if len(want.steps) > 0 || c.op == "forget" {
			continue
		}
		if got := run(b.Volume, c); got != want.answer {
			t.Fatalf("%v: %v, want %v", c, got, want.answer)
		}
		refused++
	}
	b.gives("what is refused")
	if w := (&world{bench: b, r: r, m: m}); refused < 5000 || !w.shown().same(m) {
		t.Errorf("%d calls were refused, and now %v is shown", refused, w.shown().things)
	}
}

// R1: a chip whose cells are anything is no volume, or one that can be used.
func TestR1AnyCells(t *testing.T) {
	for seed := range int64(20) {
		r := rand.New(rand.NewSource(seed))
		c, _ := chip.New(small(), nil, nil)
		m := c.Image()
		r.Read(m.Cells)
		c, e := chip.Load(m, nil)
		if e != api.OK {
			t.Fatal(e)
		}
		if v, e := Mount(c); v != nil || e != api.ErrNone {
			t.Errorf("Mount: %v, %d", v, e)
		}
	}
}
