package log

import (
	"bytes"
	"slices"
	"testing"

	"shale/api"
)

func parts(n, size int) [][]byte {
	list := make([][]byte, n)
	for i := range list {
		list[i] = bytes.Repeat([]byte{byte(i + 1)}, size)
	}
	return list
}

func (b *bench) tail(what string, list [][]byte, want bool, e api.Errno) {
	b.t.Helper()
	if is, f := b.Tail(list); is != want || f != e {
		b.t.Fatalf("%s: %v, %d, want %v, %d", what, is, f, want, e)
	}
}

// part fails unless a page is the part of a checkpoint.
func (b *bench) part(p api.Place, tags api.Tags, link []byte, data []byte) {
	b.t.Helper()
	tags.Kind, tags.Count = api.KindSave, 4+len(data)
	b.tagged(p, tags)
	if got := looked(b.t, b.c, p).Data[:tags.Count]; !slices.Equal(got, append(slices.Clone(link), data...)) {
		b.t.Fatalf("the part at %v is %v", p, got)
	}
}

// L10: the parts stand one behind the other, each with the place of the one ahead.
func TestTail(t *testing.T) {
	b := begun(t)
	b.step("a header", b.header(2), api.OK)
	b.skip()
	given := parts(4, 252)
	given[1], given[3] = []byte{8, 9}, []byte{7}
	kept := slices.Clone(given)
	b.tail("four parts", given, true, api.OK)
	b.gives("four parts", written(1, 2), written(1, 3), erased(2), written(2, 0), written(2, 1), written(2, 2))
	none := []byte{255, 255, 255, 255}
	b.part(at(1, 2), api.Tags{Serial: 4, Begin: 1, Object: 4}, none, given[0])
	b.part(at(1, 3), api.Tags{Serial: 5, Begin: 1, Object: 4, Chunk: 1}, []byte{1, 0, 2, 0}, given[1])
	b.part(at(2, 1), api.Tags{Serial: 7, Begin: 1, Object: 4, Chunk: 2}, []byte{1, 0, 3, 0}, given[2])
	b.part(at(2, 2), api.Tags{Serial: 8, Begin: 1, Object: 4, Chunk: 3, Flags: api.FlagEnd}, []byte{2, 0, 1, 0}, given[3])
	b.stands(1, api.Block{State: api.BlockUsed, Head: 2, Real: true, Live: 1})
	b.stands(2, api.Block{State: api.BlockOpen, Head: 6, Real: true})
	if !slices.EqualFunc(given, kept, slices.Equal) || b.Usage().Live != 1 || b.State().Last != 2 {
		t.Errorf("behind Tail: %v", b.State())
	}
	b.told("behind Tail")
	b.does("it goes on", chunk(2, 0, 1, 1), written(2, 3))
	b.tail("one part", parts(1, 1), true, api.OK)
	b.gives("one part", erased(3), written(3, 0), written(3, 1))
	b.part(at(3, 1), api.Tags{Serial: 11, Begin: 1, Object: 1, Flags: api.FlagEnd}, none, []byte{1})
	b.told("behind both")
}

// A link's numbers have two bytes each, the lowest first.
func TestTailLinks(t *testing.T) {
	c := newChip(t, shape(300, 4, 1), nil)
	format(t, c, 257)
	b := mount(t, c)
	b.tail("four parts", parts(4, 9), true, api.OK)
	b.part(at(259, 1), api.Tags{Serial: 7, Begin: 1, Object: 4, Chunk: 3, Flags: api.FlagEnd}, []byte{2, 1, 3, 0}, bytes.Repeat([]byte{4}, 9))
	c = newChip(t, shape(14, 256, 1), nil)
	format(t, c, 0)
	b = mount(t, c)
	b.tail("256 parts", parts(256, 1), true, api.OK)
	b.part(at(2, 1), api.Tags{Serial: 259, Begin: 1, Object: 256, Chunk: 255, Flags: api.FlagEnd}, []byte{1, 0, 255, 0}, []byte{0})
}

// L10: which parts may be; ahead of it false, if it is halted, and ErrOff.
func TestTailRefuses(t *testing.T) {
	b := begun(t, api.Fault{At: 2, Kind: api.FaultCut}, api.Fault{At: 3, Kind: api.FaultCut})
	wrong := map[string][][]byte{
		"none":           nil,
		"none at all":    {},
		"an empty part":  {{1}, {}, {2}},
		"a nil part":     {nil},
		"a part too big": {{1}, make([]byte, 253)},
		"too many parts": parts(api.MaxCells+1, 1),
	}
	for what, list := range wrong {
		b.tail(what, list, false, api.ErrRecord)
	}
	b.tail("as many as may be", parts(api.MaxCells, 1), false, api.OK)
	b.gives("what is refused")
	b.c.Mark(11) // is cut
	for what, list := range wrong {
		b.tail(what, list, false, api.ErrOff)
	}
	b.tail("one part", parts(1, 1), false, api.ErrOff)
	b.c.On()
	b.tail("a cut", parts(1, 1), false, api.ErrOff)
	for what, list := range wrong {
		b.tail(what, list, false, api.OK)
	}
	b.tail("halted", parts(1, 1), false, api.OK)
	if !b.Halted() {
		t.Error("it is not halted")
	}
}

// L10: there must be room for all without those blocks that a step needs.
func TestTailRoom(t *testing.T) {
	for n, want := range map[int]bool{1: true, 20: true, 21: true, 22: false, 99: false} {
		b := begun(t) // 11 are free, one is held
		b.tail("no block is open", parts(n, 1), want, api.OK)
		if (len(b.c.Trace()) == 2) == want {
			t.Errorf("%d parts: %v", n, b.c.Trace())
		}
	}
	for n, want := range map[int]bool{23: true, 24: false} {
		b := begun(t)
		b.step("a header", b.header(2), api.OK)
		b.tail("two pages are left", parts(n, 1), want, api.OK)
		if want {
			b.told("behind Tail")
		}
	}
	for n, want := range map[int]bool{2: true, 3: false} {
		b := narrow(t)
		b.step("what lets go", b.header(2, unlink), api.OK)
		b.tail("two pages are left, one block is free", parts(n, 1), want, api.OK)
	}
	b := narrow(t)
	b.tail("no block is open, two are free", parts(1, 1), false, api.OK)
	b.gives("there is no room")
}

// L10: what leaves is not free yet; with it there would be room.
func TestTailLeaving(t *testing.T) {
	b := mount(t, crowded(t, 8))
	b.step("no room behind a round", chunk(2, 0, 256, 9), api.ErrSpace)
	b.skip()
	b.tail("three are free, one leaves", parts(1, 1), false, api.OK)
	b.gives("three are free, one leaves")
}

// L10: the first command that fails ends it.
func TestTailFails(t *testing.T) {
	b := begun(t, failAt(5))
	b.tail("a part fails", parts(3, 9), false, api.OK)
	b.gives("a part fails", erased(1), written(1, 0), written(1, 1), failed(written(1, 2)))
	b.stands(1, api.Block{State: api.BlockWaiting, Head: 2, Real: true})
	b.tail("a block waits", parts(1, 9), false, api.OK)
	b.gives("a block waits")
	b.does("a step goes on", b.header(2), erased(2), written(2, 0), written(2, 1))
	b.tail("it waits still", parts(1, 9), false, api.OK)
	b.gives("it waits still")

	b = begun(t, failAt(4))
	b.tail("the first part fails", parts(3, 9), false, api.OK)
	b.gives("the first part fails", erased(1), written(1, 0), failed(written(1, 1)))
	b.does("nothing was in it", b.header(2), erased(2), written(2, 0), marked(1), written(2, 1))
	b.tail("no block waits", parts(1, 9), true, api.OK)

	b = begun(t, failAt(2))
	b.tail("an erase fails", parts(3, 9), false, api.OK)
	b.gives("an erase fails", failed(erased(1)), marked(1))
	b.stands(1, api.Block{State: api.BlockBad})
	b.tail("again", parts(3, 9), true, api.OK)
	b.gives("again", erased(2), written(2, 0), written(2, 1), written(2, 2), written(2, 3))

	b = begun(t, failAt(8))
	b.tail("the second head fails", parts(4, 9), false, api.OK)
	b.gives("the second head fails", erased(1), written(1, 0), written(1, 1), written(1, 2), written(1, 3), erased(2), failed(written(2, 0)), marked(2))
	b.stands(1, api.Block{State: api.BlockUsed, Head: 2, Real: true})
	b.stands(2, api.Block{State: api.BlockBad})
}

// L10: a mark that has failed in this life: a block may be found that this log does not know.
func TestTailBehindAMark(t *testing.T) {
	b := begun(t, failAt(2), failAt(3))
	b.tail("an erase and its mark fail", parts(1, 9), false, api.OK)
	b.gives("an erase and its mark fail", failed(erased(1)), failed(marked(1)))
	b.tail("again", parts(1, 9), false, api.OK)
	b.step("a header", b.header(2), api.OK)
	b.tail("again", parts(1, 9), false, api.OK)
	b = mount(t, b.c)
	b.tail("in the next life", parts(1, 9), true, api.OK)
}

// L9: a cut in a tail ends the life; a scan finds what it found ahead.
func TestTailCut(t *testing.T) {
	for at := 5; at < 12; at++ {
		for _, fill := range []byte{0, 255, 170} {
			b := begun(t, api.Fault{At: at, Kind: api.FaultCut, Fill: fill})
			b.step("a header", b.header(2), api.OK)
			b.tail("a cut", parts(5, 252), false, api.ErrOff)
			if !b.Halted() || !b.c.Dark() {
				t.Fatalf("cut at %d: not halted", at)
			}
			b.c.On()
			if s := scanned(t, b.c).state; len(s.Objects) != 1 || s.Objects[0].Id != 2 {
				t.Fatalf("cut at %d: %v", at, s.Objects)
			}
			b = mount(t, b.c)
			b.step("the next life", chunk(2, 0, 5, 1), api.OK)
			b.told("the next life")
			keepsRules(t, b.c, nil)
		}
	}
}
