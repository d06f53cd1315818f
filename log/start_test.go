package log

import (
	"math"
	"reflect"
	"slices"
	"testing"

	"shale/api"
)

// someState is one of two objects in two blocks, such as a mount may find.
func someState() api.State {
	s := api.State{Floor: 5, Next: 13, Cursor: 1, Last: 0, Blocks: make([]api.Block, 12)}
	s.Blocks[0] = api.Block{State: api.BlockUsed, Head: 5, Real: true, Live: 3}
	s.Blocks[1] = api.Block{State: api.BlockUsed, Head: 9, Live: 1}
	s.Blocks[2] = api.Block{State: api.BlockBad}
	s.Objects = []api.Object{
		{Id: 2, Head: true, Node: api.Node{Type: api.TypeFile, Parent: 1, Name: "a", Size: 600, Mode: 420, Stamp: 9}, Place: at(0, 1), Chunks: []api.Chunk{
			{Chunk: 0, Piece: api.Piece{Place: at(0, 3), Count: 256}},
			{Chunk: 2, Piece: api.Piece{Place: at(1, 2), Count: 88}},
		}},
		{Id: 7, Head: true, Node: api.Node{Type: api.TypeDir, Parent: 9, Name: "d"}, Place: at(0, 2)},
	}
	return s
}

// L1: the state as it is told; nothing is read or written (the chip is blank).
func TestStart(t *testing.T) {
	c := newChip(t, small(), []int{2})
	given := someState()
	l, e := Start(c, given)
	if e != api.OK || l == nil {
		t.Fatalf("Start: %d", e)
	}
	given.Blocks[0].Live, given.Objects[0].Id, given.Objects[0].Chunks[0].Chunk = 1, 3, 1
	if !reflect.DeepEqual(l.State(), someState()) {
		t.Errorf("R4: State %v", l.State())
	}
	if l.Halted() || len(c.Trace()) != 0 || l.Geometry() != small() {
		t.Errorf("Halted %v, trace %v, Geometry %v", l.Halted(), c.Trace(), l.Geometry())
	}
	if u := l.Usage(); u != (api.Usage{Good: 11, Live: 4, Limit: 12}) {
		t.Errorf("Usage %v", u)
	}
	if id, there := l.Table().Find(1, "a"); id != 2 || !there || l.Table() != l.table {
		t.Errorf("Table: %d, %v", id, there)
	}
	if _, e := Start(c, someState()); e != api.OK {
		t.Errorf("Start again: %d", e)
	}
}

// turned is a state that something was changed in.
func turned(turn func(s *api.State)) api.State {
	s := someState()
	turn(&s)
	return s
}

func TestStartTakes(t *testing.T) {
	for what, turn := range map[string]func(s *api.State){
		"nothing": func(s *api.State) {
			*s = api.State{Floor: 1, Next: 2, Cursor: -1, Last: -1, Blocks: make([]api.Block, 12)}
		},
		"the greatest serial": func(s *api.State) { s.Next = api.MaxSerial + 1 },
		"the greatest floor":  func(s *api.State) { s.Floor = 12 },
		"the least floor":     func(s *api.State) { s.Floor = 1 },
		"the greatest head":   func(s *api.State) { s.Blocks[1].Head = 12 },
		"no cursor":           func(s *api.State) { s.Cursor = -1 },
		"a held block":        func(s *api.State) { s.Blocks[5].State, s.Last = api.BlockHeld, 5 },
		"the greatest number": func(s *api.State) { s.Objects[1].Id = api.MaxObject },
		"a link":              func(s *api.State) { s.Objects[1].Node.Type, s.Objects[1].Node.Target = api.TypeLink, "x" },
		"just the size":       func(s *api.State) { s.Objects[0].Chunks[1].Piece.Count, s.Objects[0].Node.Size = 256, 768 },
		"the greatest size and chunk": func(s *api.State) {
			s.Objects[0].Node.Size = 256 << 20
			s.Objects[0].Chunks[1] = api.Chunk{Chunk: api.MaxChunk, Piece: api.Piece{Place: at(1, 2), Count: 256}}
		},
		"a count of 1": func(s *api.State) { s.Objects[0].Chunks[1].Piece.Count = 1 },
	} {
		c := newChip(t, small(), nil)
		l, e := Start(c, turned(turn))
		if e != api.OK {
			t.Errorf("%s: %d", what, e)
		} else if got, want := l.State(), turned(turn); !sameObjects(got.Objects, want.Objects) || !slices.Equal(got.Blocks, want.Blocks) || got.Next != want.Next || got.Floor != want.Floor || got.Cursor != want.Cursor || got.Last != want.Last {
			t.Errorf("%s: State %v, want %v", what, got, want)
		}
	}
}

func TestStartRefuses(t *testing.T) {
	object := func(turn func(o *api.Object)) func(s *api.State) {
		return func(s *api.State) { turn(&s.Objects[0]) }
	}
	piece := func(turn func(c *api.Chunk)) func(s *api.State) {
		return func(s *api.State) { turn(&s.Objects[0].Chunks[1]) }
	}
	for what, turn := range map[string]func(s *api.State){
		"Next 0": func(s *api.State) { s.Next = 0 },
		"Next 1": func(s *api.State) {
			*s = api.State{Floor: 1, Next: 1, Cursor: -1, Last: -1, Blocks: make([]api.Block, 12)}
		},
		"Next too great":                  func(s *api.State) { s.Next = api.MaxSerial + 2 },
		"the greatest Next":               func(s *api.State) { s.Next = math.MaxUint64 },
		"Floor 0":                         func(s *api.State) { s.Floor = 0 },
		"Floor as Next":                   func(s *api.State) { s.Floor = 13 },
		"a head as Next":                  func(s *api.State) { s.Next, s.Blocks[1].Head = 13, 13 },
		"an open block":                   func(s *api.State) { s.Blocks[4] = api.Block{State: api.BlockOpen, Head: 11} },
		"a leaving block":                 func(s *api.State) { s.Blocks[4] = api.Block{State: api.BlockLeaving, Head: 11} },
		"a waiting block":                 func(s *api.State) { s.Blocks[4] = api.Block{State: api.BlockWaiting, Head: 11} },
		"one live too many":               func(s *api.State) { s.Blocks[1].Live = 2 },
		"one live too few":                func(s *api.State) { s.Blocks[0].Live = 2 },
		"no object":                       func(s *api.State) { s.Objects = nil },
		"live elsewhere":                  func(s *api.State) { s.Blocks[3] = api.Block{State: api.BlockUsed, Head: 11, Live: 1} },
		"a phantom":                       object(func(o *api.Object) { o.Head = false }),
		"the root":                        object(func(o *api.Object) { o.Id = 1 }),
		"the number 0":                    object(func(o *api.Object) { o.Id = 0 }),
		"a number below 0":                object(func(o *api.Object) { o.Id = math.MinInt }),
		"a number twice":                  object(func(o *api.Object) { o.Id = 7 }),
		"numbers that fall":               object(func(o *api.Object) { o.Id = 8 }),
		"a number too great":              func(s *api.State) { s.Objects[1].Id = api.MaxObject + 1 },
		"unlinked":                        object(func(o *api.Object) { o.Node.Parent = 0 }),
		"a shadow":                        object(func(o *api.Object) { o.Node.Shadow = 7 }),
		"no type":                         object(func(o *api.Object) { o.Node.Type = 0 }),
		"no name":                         object(func(o *api.Object) { o.Node.Name = "" }),
		"a mode too great":                object(func(o *api.Object) { o.Node.Mode = 4096 }),
		"a parent too great":              object(func(o *api.Object) { o.Node.Parent = 1 << 20 }),
		"a size below 0":                  object(func(o *api.Object) { o.Node.Size = -1 }),
		"a size too great for the pages":  object(func(o *api.Object) { o.Node.Size = 256<<20 + 1 }),
		"a size too great":                object(func(o *api.Object) { o.Node.Size = 1<<31 + 1 }),
		"a size too small for its chunks": object(func(o *api.Object) { o.Node.Size = 599 }),
		"chunks of a directory":           func(s *api.State) { s.Objects[0].Node = s.Objects[1].Node },
		"a directory with a size":         func(s *api.State) { s.Objects[1].Node.Size = 1 },
		"a header in a page 0":            object(func(o *api.Object) { o.Place.Page = 0 }),
		"a header in a page below 0":      object(func(o *api.Object) { o.Place.Page = -1 }),
		"a header in no page":             object(func(o *api.Object) { o.Place.Page = 4 }),
		"a header in no block":            object(func(o *api.Object) { o.Place.Block = 12 }),
		"a header in a block below 0":     object(func(o *api.Object) { o.Place.Block = -1 }),
		"a header in a free block":        object(func(o *api.Object) { o.Place.Block = 5 }),
		"a header in a bad block":         object(func(o *api.Object) { o.Place.Block = 2 }),
		"a header in another one's page":  object(func(o *api.Object) { o.Place = at(0, 2) }),
		"a header in its chunk's page":    object(func(o *api.Object) { o.Place = at(1, 2) }),
		"a chunk in a page 0":             piece(func(c *api.Chunk) { c.Piece.Place.Page = 0 }),
		"a chunk in no page":              piece(func(c *api.Chunk) { c.Piece.Place.Page = math.MaxInt }),
		"a chunk in no block":             piece(func(c *api.Chunk) { c.Piece.Place.Block = math.MaxInt }),
		"a chunk in a free block":         piece(func(c *api.Chunk) { c.Piece.Place.Block = 11 }),
		"a chunk in another one's page":   piece(func(c *api.Chunk) { c.Piece.Place = at(0, 3) }),
		"a chunk of 0 bytes":              piece(func(c *api.Chunk) { c.Piece.Count = 0 }),
		"a chunk of less than 0 bytes":    piece(func(c *api.Chunk) { c.Piece.Count = -1 }),
		"a chunk of 257 bytes":            func(s *api.State) { s.Objects[0].Chunks[0].Piece.Count = 257 },
		"a chunk behind the size":         piece(func(c *api.Chunk) { c.Piece.Count = 89 }),
		"chunks that fall":                func(s *api.State) { slices.Reverse(s.Objects[0].Chunks) },
		"a chunk twice":                   piece(func(c *api.Chunk) { c.Chunk = 0 }),
		"a chunk below 0":                 func(s *api.State) { s.Objects[0].Chunks[0].Chunk = -1 },
		"the least chunk":                 func(s *api.State) { s.Objects[0].Chunks[0].Chunk = math.MinInt },
		"a chunk too great":               piece(func(c *api.Chunk) { c.Chunk = 1 << 20 }),
		"the greatest chunk":              piece(func(c *api.Chunk) { c.Chunk = math.MaxInt }),
		"a chunk that wraps round":        piece(func(c *api.Chunk) { c.Chunk = 1 << 56 }),
	} {
		c := newChip(t, small(), nil)
		if l, e := Start(c, turned(turn)); l != nil || e != api.ErrRecord {
			t.Errorf("%s: %d, want ErrRecord", what, e)
		}
		if len(c.Trace()) != 0 {
			t.Errorf("%s: a command was given", what)
		}
	}
}

// Of several errors the first: ErrOff, what blocks.New answers, ErrRecord.
func TestStartOrder(t *testing.T) {
	c := newChip(t, small(), nil, api.Fault{At: 0, Kind: api.FaultCut})
	for what, x := range map[string]struct {
		turn func(s *api.State)
		want api.Errno
	}{
		"eleven blocks":     {func(s *api.State) { s.Blocks = s.Blocks[:11] }, api.ErrPlace},
		"no blocks":         {func(s *api.State) { s.Blocks = nil }, api.ErrPlace},
		"the cursor 12":     {func(s *api.State) { s.Cursor = 12 }, api.ErrPlace},
		"the last block -2": {func(s *api.State) { s.Last = -2 }, api.ErrPlace},
		"two of one head":   {func(s *api.State) { s.Blocks[1].Head = 5 }, api.ErrBlock},
		"the last one free": {func(s *api.State) { s.Last = 9 }, api.ErrBlock},
		"a state 7":         {func(s *api.State) { s.Blocks[9].State = 7 }, api.ErrBlock},
	} {
		s := turned(func(s *api.State) { x.turn(s); s.Next = 0; s.Objects = nil })
		if l, e := Start(c, s); l != nil || e != x.want {
			t.Errorf("%s: %d, want %d", what, e, x.want)
		}
	}
	c.Mark(11) // is cut
	if l, e := Start(c, api.State{}); l != nil || e != api.ErrOff {
		t.Errorf("without power: %d", e)
	}
}
