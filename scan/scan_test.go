package scan

import (
	"reflect"
	"runtime"
	"slices"
	"testing"

	"shale/api"
	"shale/chip"
)

// The chapter's examples, each page behind the ones ahead of it.
func TestExamples(t *testing.T) {
	c := newChip(t, small(), nil)
	if f, e := Floor(c); f != 0 || e != api.OK {
		t.Errorf("Floor of nothing: %d, %d", f, e)
	}
	if s, e := Mount(c); e != api.ErrNone || !reflect.DeepEqual(s, api.State{}) {
		t.Errorf("Mount of nothing: %v, %d", s, e)
	}
	a := header(at(0, 1), 2, 1, 2, file("a"))
	lay(t, c, head(0, 1, 1), a)
	holds(t, c, 1, at(0, 1))
	stands(t, c, api.State{Floor: 1, Next: 3, Cursor: 0, Last: 0}, api.Block{State: api.BlockUsed, Head: 1, Real: true, Live: 1})

	again := copied(header(at(1, 1), 4, 3, 2, file("a")))
	lay(t, c, head(1, 3, 1), again)
	holds(t, c, 1, at(0, 1))
	stands(t, c, api.State{Floor: 1, Next: 5, Cursor: 1, Last: 1}, api.Block{State: api.BlockUsed, Head: 1, Real: true, Live: 1}, api.Block{State: api.BlockHeld})

	lay(t, c, chunk(at(1, 2), 5, 3, 2, 0, 7))
	holds(t, c, 3, at(1, 1), at(1, 2))
	stands(t, c, api.State{Floor: 3, Next: 6, Cursor: 1, Last: 1}, api.Block{}, api.Block{State: api.BlockUsed, Head: 3, Real: true, Live: 2})
	want := []api.Object{{Id: 2, Head: true, Node: api.Node{Type: 1, Parent: 1, Name: "a", Size: 7}, Place: at(1, 1), Chunks: []api.Chunk{{Piece: api.Piece{Place: at(1, 2), Count: 7}}}}}
	if s := mounted(t, c); !reflect.DeepEqual(s.Objects, want) {
		t.Errorf("the objects are %v", s.Objects)
	}
	if l, e := Leaves(c); e != api.OK || !slices.Equal(places(l), []api.Place{at(0, 0), at(0, 1), at(1, 0), at(1, 1), at(1, 2)}) {
		t.Errorf("Leaves: %v, %d", places(l), e)
	}
	wroteNothing(t, c, 5)
}

// holds fails unless the floor is this and just these pages count.
func holds(t *testing.T, c *chip.Chip, floor uint64, counted ...api.Place) {
	t.Helper()
	if f, e := Floor(c); f != floor || e != api.OK {
		t.Errorf("Floor: %d, %d, want %d", f, e, floor)
	}
	if l, e := Counted(c); e != api.OK || !slices.Equal(places(l), counted) {
		t.Errorf("Counted: %v, %d, want %v", places(l), e, counted)
	}
}

// stands fails unless Mount tells this, and these blocks; all others are free. (The objects are not looked at.)
func stands(t *testing.T, c *chip.Chip, want api.State, blocks ...api.Block) {
	t.Helper()
	got := mounted(t, c)
	want.Blocks = append(blocks, make([]api.Block, c.Geometry().Blocks-len(blocks))...)
	want.Objects = got.Objects
	if !reflect.DeepEqual(got, want) {
		t.Errorf("Mount: %v, want %v", got, want)
	}
}

// S1: without power no call tells anything.
func TestS1Off(t *testing.T) {
	c := newChip(t, small(), nil, api.Fault{At: 1, Kind: api.FaultCut})
	lay(t, c, head(0, 1, 1))
	c.Mark(7)
	if l, e := Leaves(c); l != nil || e != api.ErrOff {
		t.Errorf("Leaves: %v, %d", l, e)
	}
	if f, e := Floor(c); f != 0 || e != api.ErrOff {
		t.Errorf("Floor: %d, %d", f, e)
	}
	if l, e := Counted(c); l != nil || e != api.ErrOff {
		t.Errorf("Counted: %v, %d", l, e)
	}
	if s, e := Mount(c); !reflect.DeepEqual(s, api.State{}) || e != api.ErrOff {
		t.Errorf("Mount: %v, %d", s, e)
	}
	if e := Format(c); e != api.ErrOff {
		t.Errorf("Format: %d", e)
	}
	wroteNothing(t, c, 2)
	c.On()
	if f, e := Floor(c); f != 1 || e != api.OK {
		t.Errorf("Floor with power: %d, %d", f, e)
	}
}

// S2: a leaf has all that leaf.Open tells: tags, data as put right, how many bits were.
func TestS2Leaves(t *testing.T) {
	x := header(at(2, 1), 9, 8, 5, file("x"))
	c := laid(t, x, head(1, 3, 3))
	c.Flip(at(2, 1), 1)
	l, e := Leaves(c)
	if e != api.OK || !slices.Equal(places(l), []api.Place{at(1, 0), at(2, 1)}) {
		t.Fatalf("Leaves: %v, %d", places(l), e)
	}
	got := l[1].Look
	got.Tags.Zeros = 0
	x.tags.Count = len(x.data)
	if got.State != api.LookWhole || got.Tags != x.tags || !slices.Equal(got.Data[:len(x.data)], x.data) || len(got.Data) != 256 || got.Fixed != 1 {
		t.Errorf("the leaf is %v", got)
	}
}

// Words: which pages are real, and so make the floor; which count, and in which order.
func TestS2Words(t *testing.T) {
	a, b := at(0, 1), at(0, 2)
	for what, x := range map[string]struct {
		chip    *chip.Chip
		floor   uint64
		counted []api.Place
	}{
		"a block without a head":              {laid(t, header(a, 9, 9, 2, file("a"))), 0, nil},
		"a page 0 of another kind":            {laid(t, header(at(0, 0), 3, 3, 2, file("a")), header(a, 4, 3, 3, file("b"))), 0, nil},
		"a head that is not the page 0":       {laid(t, sheet{at: a, tags: api.Tags{Kind: api.KindHead, Serial: 7, Begin: 7}}), 0, nil},
		"such a one behind a head":            {laid(t, head(0, 1, 1), sheet{at: a, tags: api.Tags{Kind: api.KindHead, Serial: 7, Begin: 7}}), 1, nil},
		"a head makes the floor":              {laid(t, head(0, 8, 5), header(a, 9, 4, 2, file("a"))), 5, []api.Place{a}},
		"a header makes it":                   {laid(t, head(0, 3, 2), header(a, 4, 3, 2, file("a"))), 3, []api.Place{a}},
		"a chunk makes it":                    {laid(t, head(0, 3, 2), chunk(a, 4, 3, 2, 0, 1)), 3, []api.Place{a}},
		"a part of a checkpoint makes it":     {laid(t, head(0, 3, 2), save(a, 4, 3)), 3, []api.Place{a}},
		"a copy does not":                     {laid(t, head(0, 3, 2), copied(header(a, 4, 3, 2, file("a")))), 2, nil},
		"a copy of the floor":                 {laid(t, head(0, 3, 2), copied(header(a, 4, 2, 2, file("a")))), 2, []api.Place{a}},
		"a copy of less":                      {laid(t, head(0, 3, 2), copied(chunk(a, 4, 1, 2, 0, 1))), 2, []api.Place{a}},
		"a copy below the floor":              {laid(t, head(0, 5, 5), copied(chunk(a, 4, 1, 2, 0, 1))), 5, nil},
		"a real page below the floor":         {laid(t, head(0, 5, 5), chunk(a, 4, 1, 2, 0, 1)), 5, nil},
		"one of the floor":                    {laid(t, head(0, 5, 4), chunk(a, 4, 1, 2, 0, 1)), 4, []api.Place{a}},
		"a copy that has the floor as serial": {laid(t, head(0, 5, 4), copied(chunk(a, 4, 1, 2, 0, 1))), 4, []api.Place{a}},
		"by rising serial":                    {laid(t, head(0, 1, 1), chunk(a, 9, 1, 2, 0, 1), chunk(b, 3, 1, 2, 0, 1)), 1, []api.Place{b, a}},
		"over several blocks":                 {laid(t, head(0, 1, 1), chunk(a, 9, 1, 2, 0, 1), head(1, 2, 1), chunk(at(1, 1), 3, 1, 2, 0, 1)), 1, []api.Place{at(1, 1), a}},
		"of one serial by place":              {laid(t, head(1, 1, 1), chunk(at(1, 1), 9, 1, 2, 0, 1), head(0, 1, 1), chunk(a, 9, 1, 2, 0, 1), chunk(b, 9, 1, 2, 1, 1), chunk(at(0, 3), 8, 1, 2, 1, 1)), 1, []api.Place{at(0, 3), a, b, at(1, 1)}},
	} {
		t.Run(what, func(t *testing.T) { holds(t, x.chip, x.floor, x.counted...) })
	}
}

// What is marked is not looked at.
func TestS2Marked(t *testing.T) {
	c := laid(t, head(0, 1, 1), head(1, 5, 5), header(at(1, 1), 6, 5, 2, file("a")))
	holds(t, c, 5, at(1, 1))
	c.Mark(1)
	holds(t, c, 1)
	if l, _ := Leaves(c); !slices.Equal(places(l), []api.Place{at(0, 0)}) {
		t.Errorf("Leaves: %v", places(l))
	}
	stands(t, c, api.State{Floor: 1, Next: 2}, api.Block{State: api.BlockHeld}, api.Block{State: api.BlockBad})
	c.Mark(0)
	if _, e := Mount(c); e != api.ErrNone {
		t.Errorf("Mount: %d", e)
	}
}

// S3: ErrNone, as long as no block has a head, whatever else is there.
func TestS3None(t *testing.T) {
	for what, c := range map[string]*chip.Chip{
		"nothing":                  newChip(t, small(), nil),
		"all marked":               newChip(t, small(), []int{0, 1, 2, 3, 4, 5, 6, 7}),
		"a header":                 laid(t, header(at(0, 1), 9, 9, 2, file("a"))),
		"a header in a page 0":     laid(t, header(at(0, 0), 9, 9, 2, file("a"))),
		"a head in another page":   laid(t, sheet{at: at(0, 1), tags: api.Tags{Kind: api.KindHead, Serial: 7, Begin: 7}}),
		"a checkpoint without one": laid(t, save(at(3, 1), 9, 9)),
	} {
		if s, e := Mount(c); e != api.ErrNone || !reflect.DeepEqual(s, api.State{}) {
			t.Errorf("%s: %v, %d", what, s, e)
		}
	}
}

// S3: Next and Cursor are of all whole pages of blocks with a head; Last is of real ones that have the floor as Begin.
func TestS3NextCursorLast(t *testing.T) {
	far := sheet{at: at(2, 2), tags: api.Tags{Kind: api.KindHead, Serial: 90, Begin: 90}}
	for what, x := range map[string]struct {
		chip   *chip.Chip
		next   uint64
		cursor int
		last   int
	}{
		"a head alone":                     {laid(t, head(2, 7, 5)), 8, 2, 2},
		"a head in another page":           {laid(t, head(2, 7, 5), head(3, 8, 5), far), 91, 2, 3},
		"such a one, without a head":       {laid(t, head(3, 8, 5), far), 9, 3, 3},
		"a copy that does not count":       {laid(t, head(1, 5, 5), head(2, 6, 5), copied(chunk(at(1, 1), 30, 20, 2, 0, 1))), 31, 1, 2},
		"a copy that counts":               {laid(t, head(1, 5, 5), head(2, 6, 5), copied(chunk(at(1, 1), 30, 5, 2, 0, 1))), 31, 1, 2},
		"a page below the floor":           {laid(t, head(1, 5, 5), head(0, 1, 1), chunk(at(0, 1), 3, 1, 2, 0, 1)), 6, 1, 1},
		"the greatest with another Begin":  {laid(t, head(1, 5, 5), chunk(at(1, 1), 6, 5, 2, 0, 1), head(2, 9, 4)), 10, 2, 1},
		"a checkpoint":                     {laid(t, head(1, 5, 5), head(2, 6, 5), save(at(1, 1), 7, 5)), 8, 1, 1},
		"one serial twice":                 {laid(t, head(4, 5, 5), head(1, 5, 5)), 6, 4, 4},
		"one serial twice, in other pages": {laid(t, head(1, 5, 5), chunk(at(1, 3), 8, 5, 2, 0, 1), head(3, 6, 5), chunk(at(3, 1), 8, 5, 2, 1, 1)), 9, 3, 3},
		"a marked block":                   {marked(laid(t, head(1, 5, 5), head(2, 9, 9)), 2), 6, 1, 1},
	} {
		s := mounted(t, x.chip)
		if s.Next != x.next || s.Cursor != x.cursor || s.Last != x.last {
			t.Errorf("%s: Next %d, Cursor %d, Last %d, want %d, %d, %d", what, s.Next, s.Cursor, s.Last, x.next, x.cursor, x.last)
		}
	}
}

func marked(c *chip.Chip, block int) *chip.Chip {
	c.Mark(block)
	return c
}

// S3: the greatest serial there is.
func TestS3GreatestSerial(t *testing.T) {
	c := laid(t, head(0, api.MaxSerial, api.MaxSerial))
	stands(t, c, api.State{Floor: api.MaxSerial, Next: api.MaxSerial + 1}, api.Block{State: api.BlockHeld})
}

// S3: how it stands with a block.
func TestS3Blocks(t *testing.T) {
	old := head(7, 4, 4) // the last block, unless it is said otherwise
	used := func(real bool, live int) api.Block {
		return api.Block{State: api.BlockUsed, Head: 2, Real: real, Live: live}
	}
	a, b, c := at(1, 1), at(1, 2), at(1, 3)
	for what, x := range map[string]struct {
		list []sheet
		want api.Block
	}{
		"blank":                            {[]sheet{old}, api.Block{}},
		"no head":                          {[]sheet{old, header(a, 5, 4, 2, file("a"))}, api.Block{}},
		"a head":                           {[]sheet{old, head(1, 2, 2)}, api.Block{}},
		"the last block's head":            {[]sheet{head(1, 2, 2)}, api.Block{State: api.BlockHeld}},
		"something new, current":           {[]sheet{old, head(1, 2, 2), header(a, 5, 4, 2, file("a"))}, used(true, 1)},
		"something new, not current":       {[]sheet{old, head(1, 2, 2), header(a, 5, 4, 2, file("a")), head(2, 6, 4), header(at(2, 1), 7, 4, 2, file("a"))}, used(true, 0)},
		"something new of the floor":       {[]sheet{old, head(1, 2, 2), header(a, 4, 3, 2, file("a"))}, used(true, 1)},
		"something new below the floor":    {[]sheet{old, head(1, 2, 2), header(a, 3, 2, 2, file("a"))}, api.Block{}},
		"a part of a checkpoint":           {[]sheet{old, head(1, 2, 2), save(a, 5, 4)}, used(true, 0)},
		"such a one below the floor":       {[]sheet{old, head(1, 2, 2), save(a, 3, 2)}, api.Block{}},
		"a copy, current":                  {[]sheet{old, head(1, 2, 2), copied(header(a, 5, 4, 2, file("a")))}, used(false, 1)},
		"a copy that does not count":       {[]sheet{old, head(1, 2, 2), copied(header(a, 9, 5, 2, file("a")))}, api.Block{}},
		"a copy that is current no more":   {[]sheet{old, head(1, 2, 2), copied(header(a, 5, 4, 2, file("a"))), head(2, 6, 4), header(at(2, 1), 7, 4, 2, file("a"))}, api.Block{}},
		"two current, one of them a copy":  {[]sheet{old, head(1, 2, 2), copied(header(a, 5, 4, 2, file("a"))), chunk(b, 6, 4, 2, 0, 9)}, used(true, 2)},
		"a chunk written over":             {[]sheet{old, head(1, 2, 2), header(a, 5, 4, 2, file("a")), chunk(b, 6, 4, 2, 0, 9), chunk(c, 7, 4, 2, 0, 8)}, used(true, 2)},
		"a phantom's chunk":                {[]sheet{old, head(1, 2, 2), copied(chunk(a, 5, 4, 2, 0, 9))}, api.Block{}},
		"an unlinked object's copies":      {[]sheet{old, head(1, 2, 2), copied(header(a, 5, 4, 2, api.Node{Type: 1, Name: "a"})), copied(chunk(b, 6, 4, 2, 0, 9))}, api.Block{}},
		"an unlinked object, new":          {[]sheet{old, head(1, 2, 2), header(a, 5, 4, 2, api.Node{Type: 1, Name: "a"})}, used(true, 0)},
		"a head's kind in another page":    {[]sheet{old, head(1, 2, 2), {at: a, tags: api.Tags{Kind: api.KindHead, Serial: 9, Begin: 9}}}, api.Block{}},
		"the last block, with what is old": {[]sheet{head(1, 2, 2), copied(header(a, 9, 8, 2, file("a")))}, api.Block{State: api.BlockHeld}},
	} {
		if s := mounted(t, laid(t, x.list...)); s.Blocks[1] != x.want {
			t.Errorf("%s: %v, want %v", what, s.Blocks[1], x.want)
		}
	}
}

// S3: what the table refuses is passed over, what is loose is forgotten; pages are taken in by rising serial, wherever they lie.
func TestS3Objects(t *testing.T) {
	none := header(at(0, 1), 2, 1, 2, file("a"))
	none.data = none.data[1:]
	dir := api.Node{Type: api.TypeDir, Parent: 1, Name: "d"}
	gone := api.Node{Type: api.TypeFile, Name: "a"}
	shadow := file("b")
	shadow.Shadow = 2
	for what, x := range map[string]struct {
		list []sheet
		want []int
		live int
	}{
		"a header that is none":          {[]sheet{none, header(at(0, 2), 3, 1, 3, file("b"))}, []int{3}, 1},
		"a chunk of a directory":         {[]sheet{header(at(0, 1), 2, 1, 2, dir), chunk(at(0, 2), 3, 1, 2, 0, 1)}, []int{2}, 1},
		"a chunk ahead of its header":    {[]sheet{chunk(at(0, 1), 2, 1, 2, 0, 9), header(at(0, 2), 3, 1, 2, file("a"))}, []int{2}, 1},
		"a header laid ahead, but newer": {[]sheet{header(at(0, 1), 9, 1, 2, file("a")), chunk(at(0, 2), 3, 1, 2, 0, 9)}, []int{2}, 1},
		"a phantom":                      {[]sheet{chunk(at(0, 1), 2, 1, 2, 0, 9), header(at(0, 2), 3, 1, 3, file("b"))}, []int{3}, 1},
		"unlinked":                       {[]sheet{header(at(0, 1), 2, 1, 2, gone), chunk(at(0, 2), 3, 1, 2, 0, 9)}, nil, 0},
		"replaced":                       {[]sheet{header(at(0, 1), 2, 1, 2, file("a")), header(at(0, 2), 3, 1, 3, shadow)}, []int{3}, 1},
		"linked again":                   {[]sheet{header(at(0, 1), 2, 1, 2, gone), header(at(0, 2), 3, 1, 2, file("a"))}, []int{2}, 1},
	} {
		s := mounted(t, laid(t, append([]sheet{head(0, 1, 1)}, x.list...)...))
		var ids []int
		for _, o := range s.Objects {
			ids = append(ids, o.Id)
		}
		if !slices.Equal(ids, x.want) || s.Blocks[0].Live != x.live {
			t.Errorf("%s: the objects %v, Live %d, want %v, %d", what, ids, s.Blocks[0].Live, x.want, x.live)
		}
	}
}

// R4: what is told is new memory, each list its own.
func TestR4Memory(t *testing.T) {
	c := laid(t, head(0, 1, 1), header(at(0, 1), 2, 1, 2, file("a")), chunk(at(0, 2), 3, 1, 2, 0, 9), chunk(at(0, 3), 4, 1, 2, 1, 9))
	leaves, _ := Leaves(c)
	counted, _ := Counted(c)
	state := mounted(t, c)
	for i := range leaves {
		leaves[i].Look.Data = append(leaves[i].Look.Data[:0], make([]byte, 300)...)
	}
	for i := range counted {
		_ = append(counted[i].Look.Data, 1, 2, 3)
		clear(counted[i].Look.Data)
	}
	state.Blocks[0].Live = 77
	state.Objects[0].Chunks[0].Piece.Count = 77
	if again := mounted(t, c); again.Blocks[0].Live != 3 || again.Objects[0].Chunks[0].Piece.Count != 9 || again.Objects[0].Node.Name != "a" {
		t.Errorf("Mount tells %v now", again)
	}
	l, _ := Counted(c)
	if l[1].Look.Data[0] != 0 || l[1].Look.Data[9] != 255 {
		t.Errorf("Counted tells %v now", l[1].Look.Data[:10])
	}
}

// R6: the same again; and all goroutines have ended.
func TestR6Goroutines(t *testing.T) {
	c := newChip(t, shape(61, 4, 1), []int{5, 60})
	for n := range 50 {
		if n != 5 {
			lay(t, c, head(n, uint64(n+1), 1), chunk(at(n, 2), uint64(100-n), 1, 2, n, 3))
		}
	}
	ahead := runtime.NumGoroutine()
	first, _ := Leaves(c)
	want := mounted(t, c)
	for range 50 {
		l, e := Leaves(c)
		if e != api.OK || !reflect.DeepEqual(l, first) || !reflect.DeepEqual(mounted(t, c), want) {
			t.Fatal("the same call tells something else")
		}
	}
	if !slices.IsSortedFunc(first, func(a, b Leaf) int { return 4*a.Place.Block + a.Place.Page - 4*b.Place.Block - b.Place.Page }) || len(first) != 98 {
		t.Errorf("Leaves: %v", places(first))
	}
	for n := 0; runtime.NumGoroutine() > ahead; n++ {
		if n > 1000 {
			t.Fatalf("%d goroutines, %d ahead", runtime.NumGoroutine(), ahead)
		}
		runtime.Gosched()
	}
}
