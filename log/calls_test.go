package log

import (
	"math"
	"math/rand"
	"reflect"
	"slices"
	"testing"

	"shale/api"
)

// L11: what is unlinked is forgotten, and its pages are of no more use; nothing is written.
func TestForget(t *testing.T) {
	b := begun(t)
	b.step("a header", b.header(2), api.OK)
	b.step("a chunk", chunk(2, 0, 9, 1), api.OK)
	b.step("another one", b.header(3), api.OK)
	b.skip()
	for _, id := range []int{-1, 0, 1, 2, 3, 4, api.MaxObject + 1, math.MinInt, math.MaxInt} {
		if e := b.Forget(id); e != api.ErrObject {
			t.Errorf("Forget(%d): %d", id, e)
		}
	}
	b.does("unlinked", b.header(2, unlink), erased(2), written(2, 0), written(2, 1))
	b.stands(1, api.Block{State: api.BlockUsed, Head: 2, Real: true, Live: 2})
	if e := b.Forget(2); e != api.OK {
		t.Errorf("Forget: %d", e)
	}
	b.gives("Forget")
	b.stands(1, api.Block{State: api.BlockUsed, Head: 2, Real: true, Live: 1})
	b.stands(2, api.Block{State: api.BlockOpen, Head: 6, Real: true})
	if e := b.Forget(2); e != api.ErrObject || b.Usage().Live != 1 {
		t.Errorf("Forget again: %d, %v", e, b.Usage())
	}
	if _, e := b.Chunk(2, 0); e != api.ErrObject {
		t.Errorf("Chunk: %d", e)
	}
	b.told("behind Forget")
	b.step("the number again, with bytes", b.header(2, sized(9)), api.ErrRecord)
	b.step("the number again", b.header(2), api.OK)
	if data, e := b.Chunk(2, 0); e != api.OK || !slices.Equal(data, make([]byte, 256)) {
		t.Errorf("P5: Chunk: %v, %d", data, e)
	}
}

// L11: a block of copies alone is free as soon as all in it are forgotten. (A halted log forgets, too.)
func TestForgetCopies(t *testing.T) {
	b := mount(t, crowded(t, 8))
	b.step("a round", chunk(2, 0, 256, 9), api.ErrSpace)
	b.step("another one, unlinked", b.header(2, unlink), api.OK)
	if e := b.Forget(2); e != api.OK {
		t.Fatalf("Forget: %d", e)
	}
	for n, x := range b.State().Blocks {
		want := api.Block{}
		if n == b.State().Cursor {
			want = api.Block{State: api.BlockOpen, Head: x.Head, Real: true}
		}
		if x != want {
			t.Errorf("the block %d is %v, want %v", n, x, want)
		}
	}
	b.told("behind Forget")

	b = begun(t, api.Fault{At: 6, Kind: api.FaultCut})
	b.step("a header", b.header(2), api.OK)
	b.step("unlinked", b.header(2, unlink), api.OK)
	b.step("a cut", b.header(3), api.ErrOff)
	if e := b.Forget(2); e != api.OK || b.Usage().Live != 0 {
		t.Errorf("Forget behind a cut: %d", e)
	}
}

// L12.
func TestChunk(t *testing.T) {
	b := begun(t, api.Fault{At: 10, Kind: api.FaultCut})
	b.step("a file", b.header(2), api.OK)
	b.step("a chunk", chunk(2, 0, 100, 5), api.OK)
	b.step("a chunk", chunk(2, 2, 256, 6), api.OK)
	b.step("a directory", b.header(3, func(n *api.Node) { n.Type = api.TypeDir }), api.OK)
	tell := func(what string, k, n int, fill byte) {
		t.Helper()
		want := make([]byte, 256)
		copy(want, slices.Repeat([]byte{fill}, n))
		data, e := b.Chunk(2, k)
		if e != api.OK || !slices.Equal(data, want) {
			t.Errorf("%s: %v, %d", what, data, e)
		}
		if len(data) > 0 {
			data[0]++ // R4: it is new memory
		}
		if again, _ := b.Chunk(2, k); !slices.Equal(again, want) {
			t.Errorf("%s, again: %v", what, again)
		}
	}
	tell("100 bytes", 0, 100, 5)
	tell("a hole", 1, 0, 0)
	tell("all bytes", 2, 256, 6)
	for _, k := range []int{-1, 3, api.MaxChunk, api.MaxChunk + 1, math.MinInt, math.MaxInt} {
		tell("none", k, 0, 0)
	}
	for _, id := range []int{0, 1, 3, 4, -1, math.MaxInt} {
		if data, e := b.Chunk(id, 0); data != nil || e != api.ErrObject {
			t.Errorf("Chunk of %d: %v, %d", id, data, e)
		}
	}
	b.c.Mark(11) // is cut
	if data, e := b.Chunk(2, 0); data != nil || e != api.ErrOff {
		t.Errorf("without power: %v, %d", data, e)
	}
	if _, e := b.Chunk(3, 0); e != api.ErrObject {
		t.Errorf("without power, no file: %d", e)
	}
	tell("without power a hole", 1, 0, 0)
	b.c.On()
	b.step("made shorter", b.header(2, sized(30)), api.OK)
	tell("what is left", 0, 30, 5)
	b.step("made longer", b.header(2, sized(600)), api.OK)
	tell("P5: what was cut off is not seen again", 0, 30, 5)
	tell("nor this", 2, 0, 0)
}

// L13, R4: what is told is new memory, and what is handed in is not kept.
func TestMemory(t *testing.T) {
	b := begun(t)
	r := b.header(2)
	room := append(slices.Clone(r.Data), 77)
	r.Data = room[:26]
	b.step("a header", r, api.OK)
	room[0] = 9
	d := chunk(2, 0, 9, 1)
	b.step("a chunk", d, api.OK)
	d.Data[0] = 2
	b.step("another chunk", chunk(2, 1, 9, 1), api.OK)
	before := b.State()
	s := b.State()
	s.Blocks[1], s.Objects[0].Id, s.Objects[0].Chunks[0].Chunk = api.Block{}, 9, 9
	_ = append(s.Objects[0].Chunks[:1], api.Chunk{Chunk: 5})
	if !reflect.DeepEqual(b.State(), before) || room[26] != 77 {
		t.Errorf("State %v, want %v", b.State(), before)
	}
	if data, _ := b.Chunk(2, 0); data[0] != 1 {
		t.Error("what was handed in is kept")
	}
	if n, e := b.Table().Node(2); n.Type != api.TypeFile || e != api.OK {
		t.Error("what was handed in is kept")
	}
}

// R1, R6: whatever it is given, each call ends; a state that is not the chip's, too, whose commands are refused and count as failed.
func TestWhateverItIsGiven(t *testing.T) {
	started := 0
	for seed := range int64(300) {
		r := rand.New(rand.NewSource(seed))
		c := newChip(t, small(), []int{r.Intn(12)}, sparse(r, someOf(r, 1, 2), 10, 9, func() byte { return 85 })...)
		s := someState()
		for range r.Intn(4) {
			spoil(r, &s)
		}
		l, e := Start(c, s)
		if e != api.OK {
			continue
		}
		started++
		x := tree{2: {node: s.Objects[0].Node}, 7: {node: s.Objects[1].Node}}
		for range 60 {
			record := x.someRecord(t, r, 256)
			if r.Intn(5) == 0 {
				record = api.Record{Kind: r.Intn(6), Flags: r.Intn(5), Object: r.Intn(9) - 1, Chunk: r.Intn(9) - 1, Data: someBytes(r, r.Intn(300))}
			}
			was := l.Halted()
			if e := l.Step(record); was != (e == api.ErrHalted) {
				t.Fatalf("seed %d: a log that is halted (%v) answers %d", seed, was, e)
			}
			l.Chunk(r.Intn(9)-1, r.Intn(9)-1)
			l.Forget(r.Intn(9))
			if r.Intn(9) == 0 {
				l.Tail(parts(r.Intn(9), r.Intn(300)))
			}
			l.State()
			l.Usage()
			c.On()
		}
	}
	if started < 100 {
		t.Errorf("%d logs were started", started)
	}
}

// spoil changes something of a state, which may be then, or may not be.
func spoil(r *rand.Rand, s *api.State) {
	switch r.Intn(6) {
	case 0:
		s.Next = someOf[uint64](r, 13, 14, 99, api.MaxSerial-3, api.MaxSerial+1, 0)
	case 1:
		s.Floor = someOf[uint64](r, 1, 4, 12, 13)
	case 2:
		s.Blocks[3+r.Intn(9)].State = someOf(r, api.BlockBad, api.BlockFree, r.Intn(8))
	case 3:
		s.Cursor = r.Intn(14) - 1
	case 4:
		n := 3 + r.Intn(9)
		s.Blocks[n] = api.Block{State: api.BlockUsed, Head: uint64(r.Intn(14)), Real: true}
	case 5:
		s.Objects[0].Node.Size = someOf(r, 600, 601, 256<<20, 5)
	}
}
