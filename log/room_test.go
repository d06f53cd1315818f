package log

import (
	"slices"
	"testing"

	"shale/api"
	"shale/chip"
)

// crowded is a chip of 12 blocks, of which the first ones are full of a file's chunks, all current.
func crowded(t *testing.T, blocks int, bad ...int) *chip.Chip {
	t.Helper()
	c := newChip(t, small(), bad)
	serial := uint64(0)
	tags := func(kind, object, chunk int) api.Tags {
		serial++
		return api.Tags{Kind: kind, Serial: serial, Begin: 1, Object: object, Chunk: chunk}
	}
	k := 0
	for n := range blocks {
		lay(t, c, at(n, 0), tags(api.KindHead, 0, 0), nil)
		for p := 1; p < 4; p++ {
			if n == 0 && p == 1 {
				lay(t, c, at(0, 1), tags(api.KindNode, 2, 0), headerOf(t, 2, api.Node{Type: api.TypeFile, Parent: 1, Name: "a"}).Data)
				continue
			}
			lay(t, c, at(n, p), tags(api.KindData, 2, k), make([]byte, 256))
			k++
		}
	}
	return c
}

// round tells the commands by which whole blocks are copied, one behind the other, from a block on.
func round(first, n int) []api.Command {
	var list []api.Command
	for i := range n {
		b := (first + i) % 12
		list = append(list, erased(b), written(b, 0), written(b, 1), written(b, 2), written(b, 3))
	}
	return list
}

// L7: each of the log's blocks is cleaned once at most; if that does not help, there is no room, but for what lets go.
func TestNoRoomBehindARound(t *testing.T) {
	b := mount(t, crowded(t, 8))
	if u := b.Usage(); u != (api.Usage{Good: 12, Live: 24, Limit: 15}) {
		t.Fatalf("Usage %v", u)
	}
	b.step("it grows", chunk(2, 30, 1, 1), api.ErrSpace)
	b.gives("it grows")
	b.step("written over", chunk(2, 0, 256, 9), api.ErrSpace)
	b.gives("written over", round(8, 8)...)
	if s := b.State(); s.Floor != 33 || s.Blocks[7].State != api.BlockLeaving || s.Blocks[3].State != api.BlockOpen || s.Blocks[8].Head != 33 {
		t.Errorf("behind it: %v", s)
	}
	if data, e := b.Chunk(2, 0); e != api.OK || data[0] != 0 {
		t.Errorf("Chunk: %d", e)
	}
	b.does("what lets go", cutAt(2, 4, 5), append(round(4, 8), erased(0), written(0, 0), written(0, 1))...)
	if u := b.Usage(); u.Live != 6 {
		t.Errorf("Usage %v", u)
	}
	b.told("behind a cut")
	b.step("it grows", chunk(2, 30, 1, 1), api.OK)
	b.told("behind it")
	keepsRules(t, b.c, nil)
}

// narrow is a log on three good blocks, of which one has a file of 100 bytes.
func narrow(t *testing.T, faults ...api.Fault) *bench {
	t.Helper()
	c := newChip(t, small(), []int{3, 4, 5, 6, 7, 8, 9, 10, 11}, faults...)
	format(t, c, 0)
	lay(t, c, at(0, 1), api.Tags{Kind: api.KindNode, Serial: 2, Begin: 1, Object: 2}, headerOf(t, 2, api.Node{Type: api.TypeFile, Parent: 1, Name: "a"}).Data)
	lay(t, c, at(0, 2), api.Tags{Kind: api.KindData, Serial: 3, Begin: 1, Object: 2}, make([]byte, 100))
	return mount(t, c)
}

// L7: which records let go.
func TestLetsGo(t *testing.T) {
	turn := func(turns ...func(n *api.Node)) func(b *bench) api.Record {
		return func(b *bench) api.Record { return b.header(2, turns...) }
	}
	as := func(r api.Record) func(b *bench) api.Record { return func(*bench) api.Record { return r } }
	for what, c := range map[string]struct {
		r    func(b *bench) api.Record
		want api.Errno
	}{
		"unlinked":             {turn(unlink), api.OK},
		"a smaller size":       {turn(sized(99)), api.OK},
		"no size":              {turn(sized(0)), api.OK},
		"a cut":                {as(cutAt(2, 0, 50)), api.OK},
		"a cut to more":        {as(cutAt(2, 0, 256)), api.OK},
		"unlinked and greater": {turn(unlink, sized(999)), api.OK},
		"the same size":        {turn(), api.ErrSpace},
		"a greater size":       {turn(sized(101)), api.ErrSpace},
		"a chunk":              {as(chunk(2, 0, 50, 1)), api.ErrSpace},
		"a cut that grows":     {as(cutAt(2, 1, 50)), api.ErrSpace},
		"a new one, unlinked":  {func(b *bench) api.Record { return b.header(3, unlink) }, api.ErrSpace},
	} {
		b := narrow(t)
		b.step(what, c.r(b), c.want)
		if c.want == api.OK {
			b.gives(what, erased(1), written(1, 0), written(1, 1))
		} else {
			b.gives(what)
		}
	}
}

// L7: what lets go goes on with two blocks that are near; with one, if a block is open that is not full.
func TestLetsGoAtTheLeast(t *testing.T) {
	b := narrow(t, failAt(6))
	b.does("two are near", b.header(2, sized(99)), erased(1), written(1, 0), failed(written(1, 1)), erased(2), written(2, 0), marked(1), written(2, 1))
	b.step("none is near: cleaned", b.header(2), api.ErrSpace)
	b.gives("none is near: cleaned", written(2, 2)) // the chunk's copy
	b.stands(0, api.Block{State: api.BlockLeaving, Head: 1, Real: true})
	if s := b.State(); s.Floor != 6 || s.Last != 2 {
		t.Errorf("State %v", s)
	}
	b.does("one is near, a page is left", b.header(2, sized(98)), written(2, 3))
	b.stands(0, api.Block{})
	b.step("one is near, no page is left", b.header(2, sized(97)), api.ErrSpace)
	b.step("so is unlinking", b.header(2, unlink), api.ErrSpace)
	b.step("so is a cut", cutAt(2, 0, 5), api.ErrSpace)
	b.gives("one is near, no page is left")
	b.stands(2, api.Block{State: api.BlockUsed, Head: 6, Real: true, Live: 2})
	if b.Halted() {
		t.Error("it is halted")
	}
	b.told("behind it")
	keepsRules(t, b.c, []int{3, 4, 5, 6, 7, 8, 9, 10, 11})
}

// L7, L8: where a clean finds no block to copy into, the log halts.
func TestCleanWithoutABlock(t *testing.T) {
	b := mount(t, crowded(t, 12))
	b.step("no block is free", cutAt(2, 0, 5), api.ErrBroken)
	b.gives("no block is free")
	if !b.Halted() {
		t.Error("it is not halted")
	}
}

// The limit: 0, if there are no more blocks than the reserve.
func TestLimit(t *testing.T) {
	for n, want := range map[int]int{0: 15, 1: 12, 4: 3, 5: 0, 6: 0, 11: 0} {
		bad := slices.Collect(func(yield func(int) bool) {
			for i := range n {
				yield(11 - i)
			}
		})
		c := newChip(t, small(), bad)
		format(t, c, 0)
		b := mount(t, c)
		if u := b.Usage(); u != (api.Usage{Good: 12 - n, Limit: want}) {
			t.Errorf("%d bad: Usage %v", n, u)
		}
		if want == 0 {
			b.step("above the limit", b.header(2), api.ErrSpace)
			b.gives("above the limit")
		}
	}
}

// L7: of several reasons the first: halted, no power, no record, no room.
func TestStepOrder(t *testing.T) {
	b := narrow(t, api.Fault{At: 4, Kind: api.FaultCut}, api.Fault{At: 5, Kind: api.FaultCut})
	b.step("no record", chunk(9, 30, 1, 1), api.ErrRecord)
	b.step("no room", chunk(2, 30, 1, 1), api.ErrSpace)
	b.c.Mark(11) // is cut
	b.step("no power", chunk(9, 30, 1, 1), api.ErrOff)
	b.step("no power", chunk(2, 30, 1, 1), api.ErrOff)
	if b.Halted() {
		t.Error("R5: it is halted by what was refused")
	}
	b.c.On()
	b.step("a cut", b.header(2, unlink), api.ErrOff)
	b.step("halted", chunk(9, 30, 1, 1), api.ErrHalted)
	b.c.On()
	b.step("halted", chunk(9, 30, 1, 1), api.ErrHalted)
}
