package blocks

import (
	"math"
	"slices"
	"testing"

	"shale/api"
)

func small() api.Geometry { return api.Geometry{Blocks: 8, Pages: 4, Sectors: 1} }

// States by short names, as the lists of these tests have many of them.
const (
	free    = api.BlockFree
	used    = api.BlockUsed
	open    = api.BlockOpen
	leaving = api.BlockLeaving
	waiting = api.BlockWaiting
	held    = api.BlockHeld
	isBad   = api.BlockBad
)

func made(t *testing.T, cursor, last int, list ...api.Block) *Blocks {
	t.Helper()
	list = append(list, make([]api.Block, 8-len(list))...)
	b, e := New(small(), list, cursor, last)
	if e != api.OK || b == nil {
		t.Fatalf("New(%v, %d, %d): %d", list, cursor, last, e)
	}
	return b
}

func answered(t *testing.T, what string, e, want api.Errno) {
	t.Helper()
	if e != want {
		t.Fatalf("%s: %d, want %d", what, e, want)
	}
}

// stands fails unless a block is as it is told.
func stands(t *testing.T, b *Blocks, n int, want api.Block) {
	t.Helper()
	if x := b.List()[n]; x != want {
		t.Fatalf("the block %d is %v, want %v", n, x, want)
	}
}

func picks(t *testing.T, b *Blocks, want ...int) {
	t.Helper()
	for _, w := range want {
		if n, is := b.Pick(); n != w || !is || b.Cursor() != w {
			t.Fatalf("Pick: %d, %v, the cursor %d, want %d", n, is, b.Cursor(), w)
		}
	}
}

func oldestIs(t *testing.T, b *Blocks, n int, head uint64, is bool) {
	t.Helper()
	if a, h, ok := b.Oldest(); a != n || h != head || ok != is {
		t.Fatalf("Oldest: %d, %d, %v, want %d, %d, %v", a, h, ok, n, head, is)
	}
}

func cleans(t *testing.T, b *Blocks, n int, head uint64, is bool) {
	t.Helper()
	if a, h, ok := b.Clean(); a != n || h != head || ok != is {
		t.Fatalf("Clean: %d, %d, %v, want %d, %d, %v", a, h, ok, n, head, is)
	}
}

func commits(t *testing.T, b *Blocks, n int, want ...int) {
	t.Helper()
	if l, e := b.Commit(n); e != api.OK || !slices.Equal(l, want) {
		t.Fatalf("Commit(%d): %v, %d, want %v", n, l, e, want)
	}
}

func counts(t *testing.T, b *Blocks, good, near, logged int) {
	t.Helper()
	if b.Good() != good || b.Near() != near || b.Logged() != logged {
		t.Fatalf("Good %d, Near %d, Logged %d, want %d, %d, %d", b.Good(), b.Near(), b.Logged(), good, near, logged)
	}
}

// The first row of examples of the chapter.
func TestExampleOfAll(t *testing.T) {
	b := made(t, -1, -1)
	counts(t, b, 8, 8, 0)
	picks(t, b, 0)
	answered(t, "Start", b.Start(0, 1), api.OK)
	commits(t, b, 0)
	answered(t, "Start of a second one", b.Start(1, 2), api.ErrBlock)
	answered(t, "Live", b.Live(0, 1), api.OK)
	answered(t, "Live above", b.Live(0, 3), api.ErrBlock)
	answered(t, "Shut", b.Shut(), api.OK)
	stands(t, b, 0, api.Block{State: used, Head: 1, Live: 1})
	if l, e := b.Commit(0); l != nil || e != api.ErrBlock {
		t.Fatalf("Commit of one that is not open: %v, %d", l, e)
	}
	picks(t, b, 1)
	answered(t, "Start with a head that is not above", b.Start(1, 1), api.ErrBlock)
	answered(t, "Start", b.Start(1, 5), api.OK)
	oldestIs(t, b, 0, 5, true)
	answered(t, "Leave of one in which something is live", b.Leave(0), api.ErrBlock)
	answered(t, "Live", b.Live(0, -1), api.OK)
	stands(t, b, 0, api.Block{State: held})
	commits(t, b, 1)
	stands(t, b, 0, api.Block{})
	oldestIs(t, b, 0, 0, false)
	answered(t, "Real", b.Real(), api.OK)
	answered(t, "Wait", b.Wait(), api.OK)
	stands(t, b, 1, api.Block{State: waiting, Head: 5, Real: true})
	answered(t, "Bad of the last one", b.Bad(1), api.ErrBlock)
	oldestIs(t, b, 0, 0, false)
	counts(t, b, 7, 7, 1)
	picks(t, b, 2)
	answered(t, "Start", b.Start(2, 9), api.OK)
	oldestIs(t, b, 1, 9, true)
	answered(t, "Leave", b.Leave(1), api.OK)
	counts(t, b, 7, 6, 1)
	commits(t, b, 2, 1)
	stands(t, b, 1, api.Block{State: waiting, Head: 5, Real: true})
	answered(t, "Bad", b.Bad(1), api.OK)
	stands(t, b, 1, api.Block{State: isBad})
	counts(t, b, 7, 6, 1)
}

func example() []api.Block {
	return []api.Block{{State: used, Head: 3, Live: 2}, {State: used, Head: 7, Real: true}, {State: held}, {State: leaving, Head: 1}, {State: waiting, Head: 5, Live: 1}, {}, {}, {State: isBad}}
}

// The second row of examples of the chapter.
func TestExampleOfAList(t *testing.T) {
	b := made(t, 4, 2, example()...)
	oldestIs(t, b, 0, 5, true)
	counts(t, b, 6, 4, 3)
	picks(t, b, 5)
	answered(t, "Start", b.Start(5, 8), api.OK)
	counts(t, b, 6, 3, 4)
	commits(t, b, 5)
	counts(t, b, 6, 3, 4)
	for _, n := range []int{2, 3, 6} {
		stands(t, b, n, api.Block{})
	}
	picks(t, b, 6)
}

func TestNewRefuses(t *testing.T) {
	for _, g := range []api.Geometry{{Blocks: 7, Pages: 4, Sectors: 1}, {Blocks: 4097, Pages: 4, Sectors: 1}, {Blocks: 8, Pages: 3, Sectors: 1}, {Blocks: 8, Pages: 257, Sectors: 1}, {Blocks: 8, Pages: 4}, {Blocks: 8, Pages: 4, Sectors: 9}, {Blocks: 4096, Pages: 17, Sectors: 1}, {Blocks: 1 << 62, Pages: 4, Sectors: 1}, {Blocks: 8, Pages: math.MaxInt, Sectors: 1}, {Blocks: -8, Pages: -4, Sectors: -1}} {
		if b, e := New(g, []api.Block{{State: 9}}, -2, 99); b != nil || e != api.ErrShape {
			t.Errorf("New of %v: %d", g, e)
		}
	}
	wrong := []api.Block{{State: 9}, {}, {}, {}, {}, {}, {}, {}}
	for _, c := range []struct {
		what         string
		list         []api.Block
		cursor, last int
		want         api.Errno
	}{
		{"no blocks", nil, -1, -1, api.ErrPlace},
		{"seven blocks", wrong[:7], -1, -1, api.ErrPlace},
		{"nine blocks", append(slices.Clone(wrong), api.Block{}), -1, -1, api.ErrPlace},
		{"the cursor -2", wrong, -2, -1, api.ErrPlace},
		{"the cursor 8", wrong, 8, -1, api.ErrPlace},
		{"the least cursor", wrong, math.MinInt, -1, api.ErrPlace},
		{"the greatest cursor", wrong, math.MaxInt, -1, api.ErrPlace},
		{"the last block -2", wrong, -1, -2, api.ErrPlace},
		{"the last block 8", wrong, -1, 8, api.ErrPlace},
		{"the greatest last block", wrong, -1, math.MaxInt, api.ErrPlace},
		{"a state that is none", wrong, -1, -1, api.ErrBlock},
	} {
		if b, e := New(small(), c.list, c.cursor, c.last); b != nil || e != c.want {
			t.Errorf("%s: %d, want %d", c.what, e, c.want)
		}
	}
	for _, g := range []api.Geometry{{Blocks: 4096, Pages: 16, Sectors: 8}, {Blocks: 256, Pages: 256, Sectors: 1}} {
		if _, e := New(g, make([]api.Block, g.Blocks), g.Blocks-1, -1); e != api.OK {
			t.Errorf("New of %v: %d", g, e)
		}
	}
}

// Each state's row of the chapter's table: the least and the greatest that may be, and one beyond.
func TestNewRows(t *testing.T) {
	const most = api.MaxSerial
	for _, x := range []api.Block{
		{}, {State: isBad},
		{State: used, Head: 1, Real: true}, {State: used, Head: most, Live: 1}, {State: used, Head: 9, Live: 3, Real: true},
		{State: open, Head: 1}, {State: open, Head: most, Live: 3}, {State: open, Head: 9, Real: true},
		{State: leaving, Head: 1}, {State: leaving, Head: most, Real: true},
		{State: waiting, Head: 1}, {State: waiting, Head: most, Live: 3, Real: true},
	} {
		if b, e := New(small(), []api.Block{{}, {}, {}, x, {}, {}, {}, {}}, -1, -1); e != api.OK || b.List()[3] != x {
			t.Errorf("%v: %d", x, e)
		}
	}
	for _, x := range []api.Block{
		{Head: 1}, {Real: true}, {Live: 1}, {Live: -1},
		{State: isBad, Head: 1}, {State: isBad, Real: true}, {State: isBad, Live: 1},
		{State: used, Real: true}, {State: used, Live: 1}, {State: used, Head: 1}, {State: used, Head: most + 1, Real: true}, {State: used, Head: 1, Live: 4}, {State: used, Head: 1, Real: true, Live: -1}, {State: used, Head: 1, Live: math.MaxInt},
		{State: open}, {State: open, Head: most + 1}, {State: open, Head: 1, Live: 4}, {State: open, Head: 1, Live: -1},
		{State: leaving}, {State: leaving, Head: most + 1}, {State: leaving, Head: 1, Live: 1}, {State: leaving, Head: 1, Live: -1},
		{State: waiting}, {State: waiting, Head: math.MaxUint64}, {State: waiting, Head: 1, Live: 4}, {State: waiting, Head: 1, Live: -1},
		{State: 7}, {State: -1}, {State: 7, Head: 1, Real: true, Live: 1}, {State: math.MinInt},
	} {
		if b, e := New(small(), []api.Block{{}, {}, {}, x, {}, {}, {}, {}}, -1, -1); e != api.ErrBlock || b != nil {
			t.Errorf("%v: %d", x, e)
		}
	}
}

// What several blocks, and the last one, have to do with one another.
func TestNewLists(t *testing.T) {
	for _, c := range []struct {
		what string
		at   int
		x    api.Block
		last int
		want api.Errno
	}{
		{"as it is", 0, example()[0], 2, api.OK},
		{"two of one head", 0, api.Block{State: used, Head: 7, Live: 2}, 2, api.ErrBlock},
		{"a leaving one of the head of another", 3, api.Block{State: leaving, Head: 3}, 2, api.ErrBlock},
		{"one open", 5, api.Block{State: open, Head: 9}, 2, api.OK},
		{"an open one that is not the newest", 5, api.Block{State: open, Head: 2}, 2, api.OK},
		{"the last block is used", 2, api.Block{}, 0, api.OK},
		{"the last block is leaving", 2, api.Block{}, 3, api.OK},
		{"the last block waits", 2, api.Block{}, 4, api.OK},
		{"no last block", 2, api.Block{}, -1, api.OK},
		{"the last block is free", 2, api.Block{}, 5, api.ErrBlock},
		{"the last block is bad", 2, api.Block{}, 7, api.ErrBlock},
		{"held, but not the last", 0, example()[0], 1, api.ErrBlock},
		{"held, but there is no last one", 0, example()[0], -1, api.ErrBlock},
		{"two held", 5, api.Block{State: held}, 2, api.ErrBlock},
		{"held with a head", 2, api.Block{State: held, Head: 9}, 2, api.ErrBlock},
		{"held and real", 2, api.Block{State: held, Real: true}, 2, api.ErrBlock},
		{"held with something live", 2, api.Block{State: held, Live: 1}, 2, api.ErrBlock},
	} {
		list := example()
		list[c.at] = c.x
		if b, e := New(small(), list, 4, c.last); e != c.want || (b == nil) != (e != api.OK) {
			t.Errorf("%s: %d, want %d", c.what, e, c.want)
		}
	}
	two := example()
	two[5], two[6] = api.Block{State: open, Head: 8}, api.Block{State: open, Head: 9}
	if _, e := New(small(), two, 4, 2); e != api.ErrBlock {
		t.Errorf("two open ones: %d", e)
	}
}

// R4: what is handed in is not kept, what is handed out is new.
func TestMemory(t *testing.T) {
	list := append(example(), api.Block{State: 9})[:8]
	b, _ := New(small(), list, 4, 2)
	list[0].Live = 3
	b.List()[1] = api.Block{}
	_ = append(b.List(), api.Block{State: 5})
	if !slices.Equal(b.List(), example()) || list[:9][8].State != 9 {
		t.Errorf("List: %v", b.List())
	}
	other, _ := New(small(), example(), 4, 2)
	answered(t, "Live", b.Live(0, 1), api.OK)
	if !slices.Equal(other.List(), example()) {
		t.Error("two books share something")
	}
	c := made(t, 1, -1, api.Block{State: waiting, Head: 1}, api.Block{State: waiting, Head: 2}, api.Block{State: open, Head: 3})
	told, _ := c.Commit(2)
	told[0] = 7
	commits(t, c, 2, 0, 1)
}

func TestPick(t *testing.T) {
	bad := api.Block{State: isBad}
	b := made(t, 5, -1, api.Block{}, bad, api.Block{}, bad, bad, api.Block{}, bad, api.Block{})
	picks(t, b, 7, 0, 2, 5, 7, 0)
	picks(t, made(t, 7, -1), 0, 1, 2)
	picks(t, made(t, -1, -1), 0)
	picks(t, made(t, 3, -1, bad, bad, bad, api.Block{}, bad, bad, bad, bad), 3, 3)
	b = made(t, 3, 2, api.Block{State: used, Head: 1, Real: true}, api.Block{State: open, Head: 9}, api.Block{State: held}, api.Block{State: leaving, Head: 2}, api.Block{State: waiting, Head: 4}, bad, bad, bad)
	if n, is := b.Pick(); n != 0 || is || b.Cursor() != 3 {
		t.Errorf("none is free: %d, %v, the cursor %d", n, is, b.Cursor())
	}
}

// A block that is not there, in all calls that take one.
func TestNoSuchBlock(t *testing.T) {
	b := made(t, 4, 2, example()...)
	for _, n := range []int{-1, 8, 9, math.MinInt, math.MaxInt, 1 << 32} {
		answered(t, "Start", b.Start(n, 0), api.ErrPlace)
		answered(t, "Live", b.Live(n, math.MaxInt), api.ErrPlace)
		answered(t, "Bad", b.Bad(n), api.ErrPlace)
		answered(t, "Leave", b.Leave(n), api.ErrPlace)
		if l, e := b.Commit(n); l != nil || e != api.ErrPlace {
			t.Errorf("Commit(%d): %v, %d", n, l, e)
		}
	}
	if !slices.Equal(b.List(), example()) || b.Cursor() != 4 {
		t.Error("R5: something has changed")
	}
}

func TestStartRefuses(t *testing.T) {
	list := example()
	list[3].Head = 20 // it leaves, but its head is there still
	for _, c := range []struct {
		block int
		head  uint64
		want  api.Errno
	}{{5, 0, api.ErrBlock}, {5, 8, api.ErrBlock}, {5, 20, api.ErrBlock}, {5, api.MaxSerial + 1, api.ErrBlock}, {5, math.MaxUint64, api.ErrBlock}, {0, 30, api.ErrBlock}, {1, 30, api.ErrBlock}, {2, 30, api.ErrBlock}, {3, 30, api.ErrBlock}, {4, 30, api.ErrBlock}, {7, 30, api.ErrBlock}, {5, 21, api.OK}, {6, api.MaxSerial, api.OK}} {
		b, _ := New(small(), list, 4, 2)
		answered(t, "Start", b.Start(c.block, c.head), c.want)
		if c.want != api.OK {
			if !slices.Equal(b.List(), list) {
				t.Errorf("Start(%d, %d): refused, but something has changed", c.block, c.head)
			}
			continue
		}
		stands(t, b, c.block, api.Block{State: open, Head: c.head})
		stands(t, b, 2, api.Block{State: held})
		if n, is := b.Open(); n != c.block || !is {
			t.Errorf("Open: %d, %v", n, is)
		}
		answered(t, "another one", b.Start(5+6-c.block, api.MaxSerial), api.ErrBlock)
	}
	if n, is := made(t, 4, 2, example()...).Open(); n != 0 || is {
		t.Errorf("Open without an open one: %d, %v", n, is)
	}
}

// The calls of the open block, where none is open.
func TestNoneOpen(t *testing.T) {
	b := made(t, 4, 2, example()...)
	answered(t, "Real", b.Real(), api.ErrBlock)
	answered(t, "Shut", b.Shut(), api.ErrBlock)
	answered(t, "Wait", b.Wait(), api.ErrBlock)
	for n := range 8 {
		if l, e := b.Commit(n); l != nil || e != api.ErrBlock {
			t.Errorf("Commit(%d): %v, %d", n, l, e)
		}
	}
	if !slices.Equal(b.List(), example()) {
		t.Error("R5: something has changed")
	}
}
