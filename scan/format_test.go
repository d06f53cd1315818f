package scan

import (
	"reflect"
	"slices"
	"testing"

	"shale/api"
	"shale/chip"
)

// Commands, as they stand in a trace.
func erase(b int) api.Command   { return api.Command{Kind: api.CmdErase, Block: b} }
func mark(b int) api.Command    { return api.Command{Kind: api.CmdMark, Block: b} }
func program(b int) api.Command { return api.Command{Kind: api.CmdProgram, Block: b} }

func failed(x api.Command) api.Command {
	x.Status = api.ErrFailed
	return x
}

func cut(x api.Command) api.Command {
	x.Status = api.ErrOff
	return x
}

func fails(list ...int) []api.Fault {
	var faults []api.Fault
	for _, n := range list {
		faults = append(faults, api.Fault{At: n, Kind: api.FaultFail})
	}
	return faults
}

func cutAt(n int) api.Fault { return api.Fault{At: n, Kind: api.FaultCut} }

// formats fails unless Format answers this and gives just these commands.
func formats(t *testing.T, what string, c *chip.Chip, e api.Errno, want ...api.Command) {
	t.Helper()
	n := len(c.Trace())
	if got := Format(c); got != e {
		t.Errorf("%s: Format: %d, want %d", what, got, e)
	}
	if got := c.Trace()[n:]; !slices.Equal(got, want) {
		t.Errorf("%s: Format gives %v, want %v", what, got, want)
	}
}

// S4, S5: the chapter's examples.
func TestFormatExamples(t *testing.T) {
	c := newChip(t, small(), nil)
	formats(t, "a new chip", c, api.OK, erase(0), program(0))
	stands(t, c, api.State{Floor: 1, Next: 2, Cursor: 0, Last: 0}, api.Block{State: api.BlockHeld})
	formats(t, "again", c, api.OK, erase(1), program(1))
	stands(t, c, api.State{Floor: 2, Next: 3, Cursor: 1, Last: 1}, api.Block{}, api.Block{State: api.BlockHeld})

	c = newChip(t, small(), []int{0})
	formats(t, "a bad block 0", c, api.OK, erase(1), program(1))
	stands(t, c, api.State{Floor: 1, Next: 2, Cursor: 1, Last: 1}, api.Block{State: api.BlockBad}, api.Block{State: api.BlockHeld})
	keepsRules(t, c, 0)
}

// S4: the head has the Serial that comes next, as its Begin too, and no content.
func TestFormatHead(t *testing.T) {
	c := laid(t, head(3, 40, 7), header(at(3, 1), 50, 7, 2, file("a")))
	formats(t, "behind 50", c, api.OK, erase(4), program(4))
	l, _ := Leaves(c)
	got := l[len(l)-1]
	got.Look.Tags.Zeros = 0
	if got.Place != at(4, 0) || got.Look.Tags != (api.Tags{Kind: api.KindHead, Serial: 51, Begin: 51}) {
		t.Errorf("the head is %v", got)
	}
	if s := mounted(t, c); len(s.Objects) != 0 || s.Floor != 51 || s.Next != 52 || s.Cursor != 4 || s.Last != 4 {
		t.Errorf("S5: %v", s)
	}
}

// S4: only free blocks are taken, in turn from the one above the cursor on, the cursor last.
func TestFormatOrder(t *testing.T) {
	used := func(b int, serial uint64) []sheet {
		return []sheet{head(b, serial, 1), header(at(b, 1), serial+1, 1, b+2, file("a"))}
	}
	all := func(except ...int) []int {
		var list []int
		for b := range 8 {
			if !slices.Contains(except, b) {
				list = append(list, b)
			}
		}
		return list
	}
	for what, x := range map[string]struct {
		bad  []int
		list []sheet
		want []int // each fails, so that the next one is tried
	}{
		"a new chip":                     {nil, nil, []int{0, 1, 2, 3, 4, 5, 6, 7}},
		"some are bad":                   {[]int{0, 3, 7}, nil, []int{1, 2, 4, 5, 6}},
		"all are bad":                    {all(), nil, nil},
		"behind a head, which is held":   {nil, []sheet{head(5, 1, 1)}, []int{6, 7, 0, 1, 2, 3, 4}},
		"behind a used block":            {nil, used(5, 1), []int{6, 7, 0, 1, 2, 3, 4}},
		"several used ones":              {nil, slices.Concat(used(2, 1), used(4, 5), used(7, 3)), []int{5, 6, 0, 1, 3}},
		"the last one is the cursor":     {nil, used(7, 1), []int{0, 1, 2, 3, 4, 5, 6}},
		"the cursor is free":             {nil, []sheet{head(2, 3, 3), head(5, 9, 2)}, []int{6, 7, 0, 1, 3, 4, 5}},
		"the last one, free, is cursor":  {nil, []sheet{head(2, 3, 3), head(7, 9, 2)}, []int{0, 1, 3, 4, 5, 6, 7}},
		"none is free":                   {all(2), []sheet{head(2, 1, 1)}, nil},
		"pages that count without heads": {nil, []sheet{header(at(1, 1), 9, 9, 2, file("a"))}, []int{0, 1, 2, 3, 4, 5, 6, 7}},
	} {
		var faults []api.Fault
		var want []api.Command
		for i, b := range x.want {
			faults = append(faults, api.Fault{At: len(x.list) + 2*i, Kind: api.FaultFail})
			want = append(want, failed(erase(b)), mark(b))
		}
		c := newChip(t, small(), x.bad, faults...)
		lay(t, c, x.list...)
		formats(t, what, c, api.ErrBroken, want...)
	}
}

// S4: what fails is marked, and the next block is taken; a head that has failed uses its serial up, an erase does not.
func TestFormatFails(t *testing.T) {
	for what, x := range map[string]struct {
		faults []api.Fault
		serial uint64
		block  int
		want   []api.Command
	}{
		"an erase":                    {fails(0), 1, 1, []api.Command{failed(erase(0)), mark(0), erase(1), program(1)}},
		"a head":                      {fails(1), 2, 1, []api.Command{erase(0), failed(program(0)), mark(0), erase(1), program(1)}},
		"two heads":                   {fails(1, 4), 3, 2, []api.Command{erase(0), failed(program(0)), mark(0), erase(1), failed(program(1)), mark(1), erase(2), program(2)}},
		"an erase, and its mark":      {fails(0, 1), 1, 1, []api.Command{failed(erase(0)), failed(mark(0)), erase(1), program(1)}},
		"a head, and its mark":        {fails(1, 2), 2, 1, []api.Command{erase(0), failed(program(0)), failed(mark(0)), erase(1), program(1)}},
		"a head that is whole":        {[]api.Fault{{At: 1, Kind: api.FaultFail, Fill: 255}}, 2, 1, []api.Command{erase(0), failed(program(0)), mark(0), erase(1), program(1)}},
		"it, and a mark that is not":  {[]api.Fault{{At: 1, Kind: api.FaultFail, Fill: 255}, {At: 2, Kind: api.FaultFail}}, 2, 1, []api.Command{erase(0), failed(program(0)), failed(mark(0)), erase(1), program(1)}},
		"it, and a mark that is done": {[]api.Fault{{At: 1, Kind: api.FaultFail, Fill: 255}, {At: 2, Kind: api.FaultFail, Fill: 1}}, 2, 1, []api.Command{erase(0), failed(program(0)), failed(mark(0)), erase(1), program(1)}},
	} {
		c := newChip(t, small(), nil, x.faults...)
		formats(t, what, c, api.OK, x.want...)
		s := mounted(t, c)
		if s.Floor != x.serial || s.Next != x.serial+1 || s.Last != x.block || s.Cursor != x.block || s.Blocks[x.block].State != api.BlockHeld || len(s.Objects) > 0 {
			t.Errorf("S5: %s: %v", what, s)
		}
		keepsRules(t, c)
	}
}

// S4: no block is left.
func TestFormatBroken(t *testing.T) {
	bad := []int{0, 1, 2, 3, 4, 5}
	c := newChip(t, small(), bad, fails(1, 3)...)
	formats(t, "two blocks fail", c, api.ErrBroken, erase(6), failed(program(6)), mark(6), failed(erase(7)), mark(7))
	if _, e := Mount(c); e != api.ErrNone {
		t.Errorf("Mount: %d", e)
	}
	formats(t, "none is left", c, api.ErrBroken)

	// A head that is whole all the same, and whose block could not be marked, is found.
	c = newChip(t, small(), []int{0, 1, 2, 3, 4, 5, 6}, api.Fault{At: 1, Kind: api.FaultFail, Fill: 255}, api.Fault{At: 2, Kind: api.FaultFail})
	formats(t, "a whole head", c, api.ErrBroken, erase(7), failed(program(7)), failed(mark(7)))
	if s := mounted(t, c); s.Floor != 1 || s.Last != 7 || s.Blocks[7].State != api.BlockHeld {
		t.Errorf("Mount: %v", s)
	}
}

// S4: a serial above the greatest is not written; what is asked is asked ahead of each erase.
func TestFormatGreatestSerial(t *testing.T) {
	c := laid(t, head(0, api.MaxSerial, 1))
	formats(t, "none is left", c, api.ErrBroken)

	c = newChip(t, small(), nil, fails(1)...)
	lay(t, c, head(0, api.MaxSerial-1, 1))
	formats(t, "the last one; an erase fails", c, api.OK, failed(erase(1)), mark(1), erase(2), program(2))
	if s := mounted(t, c); s.Floor != api.MaxSerial || s.Next != api.MaxSerial+1 {
		t.Errorf("S5: %v", s)
	}

	c = newChip(t, small(), nil, fails(2)...)
	lay(t, c, head(0, api.MaxSerial-1, 1))
	formats(t, "the last one; a head fails", c, api.ErrBroken, erase(1), failed(program(1)), mark(1))
}

// S4: the power goes in the midst of any command.
func TestFormatCut(t *testing.T) {
	for what, x := range map[string]struct {
		faults []api.Fault
		want   []api.Command
	}{
		"an erase":               {[]api.Fault{cutAt(0)}, []api.Command{cut(erase(0))}},
		"a head":                 {[]api.Fault{cutAt(1)}, []api.Command{erase(0), cut(program(0))}},
		"a mark behind an erase": {append(fails(0), cutAt(1)), []api.Command{failed(erase(0)), cut(mark(0))}},
		"a mark behind a head":   {append(fails(1), cutAt(2)), []api.Command{erase(0), failed(program(0)), cut(mark(0))}},
		"the next erase":         {append(fails(0), cutAt(2)), []api.Command{failed(erase(0)), mark(0), cut(erase(1))}},
		"a mark behind a failed": {append(fails(0, 1, 2), cutAt(3)), []api.Command{failed(erase(0)), failed(mark(0)), failed(erase(1)), cut(mark(1))}},
	} {
		c := newChip(t, small(), nil, x.faults...)
		formats(t, what, c, api.ErrOff, x.want...)
		formats(t, what+", again in the dark", c, api.ErrOff)
	}
	c := newChip(t, small(), []int{0, 1, 2, 3, 4, 5, 6}, append(fails(0), cutAt(1))...)
	formats(t, "the mark of the last block", c, api.ErrOff, failed(erase(7)), cut(mark(7)))
}

// S5: whatever was there, behind a Format there is an empty file system.
func TestS5Empty(t *testing.T) {
	c := laid(t, head(1, 9, 3), header(at(1, 1), 10, 3, 2, file("a")), chunk(at(1, 2), 11, 3, 2, 0, 5), head(2, 12, 3), copied(header(at(2, 1), 14, 13, 2, file("a"))))
	for n := range 20 {
		format(t, c)
		s := mounted(t, c)
		want := api.State{Floor: uint64(15 + n), Next: uint64(16 + n), Cursor: (3 + n) % 8, Last: (3 + n) % 8, Blocks: make([]api.Block, 8)}
		want.Blocks[s.Last].State = api.BlockHeld
		if !reflect.DeepEqual(s, want) {
			t.Fatalf("S5: %v, want %v", s, want)
		}
		if l, e := Counted(c); len(l) != 0 || e != api.OK {
			t.Fatalf("S4: %v counts", places(l))
		}
	}
	keepsRules(t, c)
}
