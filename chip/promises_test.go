package chip

import (
	"bytes"
	"math/rand"
	"slices"
	"testing"

	"shale/api"
)

// deed is a call that a random life makes.
type deed struct {
	kind int // a command's, or 0: a flip, -1: power
	p    api.Place
	bit  int
	page api.Page
}

func someDeeds(seed int64, n int) []deed {
	r := rand.New(rand.NewSource(seed))
	deeds := make([]deed, n)
	for i := range deeds {
		deeds[i] = deed{kind: []int{-1, 0, 0, 1, 1, 1, 1, 1, 2, 2}[r.Intn(10)], p: somePlace(r, small()), bit: r.Intn(2504), page: somePage(r, small())}
		if r.Intn(60) == 0 {
			deeds[i].kind = api.CmdMark
		}
	}
	return deeds
}

func (d deed) do(c *Chip) api.Errno {
	switch d.kind {
	case api.CmdProgram:
		return c.Program(d.p, d.page)
	case api.CmdErase:
		return c.Erase(d.p.Block)
	case api.CmdMark:
		return c.Mark(d.p.Block)
	case 0:
		return c.Flip(d.p, d.bit)
	}
	c.On()
	return api.OK
}

// rises tells whether a bit is 1 in now that was 0 in old.
func rises(old, now []byte) bool {
	for i := range old {
		if now[i]&^old[i] != 0 {
			return true
		}
	}
	return false
}

func TestC12NoBitRises(t *testing.T) {
	for seed := range int64(8) {
		r := rand.New(rand.NewSource(seed))
		c := made(t, nil, someFaults(r, 200)...)
		for i, d := range someDeeds(seed, 300) {
			old, dark := c.Image(), c.Dark()
			e := d.do(c)
			now := c.Image()
			for b := range 8 {
				from, to := b*4*313, (b+1)*4*313
				erased := d.kind == api.CmdErase && d.p.Block == b && !dark && e != api.ErrRule
				flipped := d.kind == 0 && d.p.Block == b && e == api.OK
				if !erased && !flipped && rises(old.Cells[from:to], now.Cells[from:to]) {
					t.Fatalf("seed %d: a bit of the block %d rises by the call %d, %v", seed, b, i, d.kind)
				}
			}
		}
	}
}

// meant is what a test knows of a page: what it was programmed with, if that went well; blank, if its block was erased well since.
type meant struct {
	holds, blank bool
	page         api.Page
}

func TestC13WhatAPageReadsAs(t *testing.T) {
	units := unitsOfPage(small())
	for seed := range int64(8) {
		r := rand.New(rand.NewSource(seed))
		c := made(t, nil, someFaults(r, 200)...)
		known := map[api.Place]meant{}
		for _, d := range someDeeds(seed+100, 400) {
			dark := c.Dark()
			e := d.do(c)
			done := !dark && e != api.ErrPlace && e != api.ErrRule
			if d.kind == api.CmdProgram && done {
				known[d.p] = meant{holds: e == api.OK, page: d.page}
			}
			for p := 0; p < 4 && d.kind == api.CmdErase && done; p++ {
				known[place(d.p.Block, p)] = meant{blank: e == api.OK}
			}
		}
		c.On()
		for p, m := range known {
			b := reads(t, c, p)
			if m.blank && !isEven(b, 255) {
				t.Errorf("seed %d: %v was erased well and is not blank", seed, p)
			}
			wrong := map[int]int{}
			for n := 0; m.holds && n < 2504; n++ {
				if b[n/8]>>(n%8)&1 != bitOf(m.page, n) {
					wrong[units[n]]++
				}
			}
			for unit, n := range wrong {
				if n > 1 {
					t.Errorf("seed %d: %v holds, and %d bits of the unit %d are wrong", seed, p, n, unit)
				}
			}
		}
	}
}

func TestC15FaultsThatMeetNothing(t *testing.T) {
	for seed := range int64(8) {
		r := rand.New(rand.NewSource(seed))
		faults := someFaults(r, 400)
		c := made(t, nil, faults...)
		var answers []api.Errno
		deeds := someDeeds(seed, 150)
		for _, d := range deeds {
			answers = append(answers, d.do(c))
		}
		reached := slices.DeleteFunc(slices.Clone(faults), func(f api.Fault) bool { return f.At >= c.Count() })
		if len(reached) == 0 || len(reached) == len(faults) {
			t.Fatalf("%d of %d faults were reached", len(reached), len(faults))
		}
		d := made(t, nil, reached...)
		for i := range deeds {
			if e := deeds[i].do(d); e != answers[i] {
				t.Fatalf("seed %d, the call %d: %d, with the other faults %d", seed, i, e, answers[i])
			}
		}
		if !slices.Equal(c.Trace(), d.Trace()) || !bytes.Equal(c.Image().Cells, d.Image().Cells) {
			t.Errorf("seed %d: faults that met nothing have changed something", seed)
		}
	}
}

// TestC15RefusedCommandsMeetNoFault: only what is taken is numbered.
func TestC15RefusedCommandsMeetNoFault(t *testing.T) {
	c := made(t, []int{1}, api.Fault{At: 0, Kind: api.FaultFail}, api.Fault{At: 2, Kind: api.FaultCut})
	expect(t, "numbers", []api.Errno{
		c.Erase(1), c.Program(place(1, 0), even(0)), c.Program(place(0, 0), api.Page{}), c.Mark(9),
		c.Erase(0), c.Program(place(0, 0), even(0)), c.Erase(0), c.Program(place(0, 0), even(0)), c.Erase(0),
	}, api.ErrRule, api.ErrRule, api.ErrPage, api.ErrPlace, api.ErrFailed, api.ErrRule, api.OK, api.ErrOff, api.ErrOff)
	if c.Count() != 3 || len(c.Trace()) != 7 {
		t.Errorf("%d taken, trace %v", c.Count(), c.Trace())
	}
}
