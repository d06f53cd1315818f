package judge

import (
	"math"
	"math/rand"
	"slices"
	"testing"

	"shale/api"
)

func small() api.Geometry { return api.Geometry{Blocks: 8, Pages: 4, Sectors: 1} }

func of(kind, block, page int, status api.Errno) api.Command {
	return api.Command{Kind: kind, Block: block, Page: page, Status: status}
}

const (
	program = api.CmdProgram
	erase   = api.CmdErase
	mark    = api.CmdMark
)

func made(t *testing.T, marks []bool, clean bool) *Judge {
	t.Helper()
	j, e := New(small(), marks, clean)
	if e != api.OK || j == nil {
		t.Fatalf("New: %d", e)
	}
	return j
}

func nexts(t *testing.T, j *Judge) []int {
	t.Helper()
	var list []int
	for b := range 8 {
		n, e := j.Next(b)
		if e != api.OK {
			t.Fatalf("Next(%d): %d", b, e)
		}
		list = append(list, n)
	}
	return list
}

func TestNewRefuses(t *testing.T) {
	for _, c := range []struct {
		g     api.Geometry
		marks int
		want  api.Errno
	}{
		{api.Geometry{Blocks: 8, Pages: 4, Sectors: 1}, 8, api.OK},
		{api.Geometry{Blocks: 4096, Pages: 16, Sectors: 8}, 4096, api.OK},
		{api.Geometry{Blocks: 256, Pages: 256, Sectors: 1}, 256, api.OK},
		{api.Geometry{Blocks: 7, Pages: 4, Sectors: 1}, 7, api.ErrShape},
		{api.Geometry{Blocks: 4097, Pages: 4, Sectors: 1}, 4097, api.ErrShape},
		{api.Geometry{Blocks: 8, Pages: 3, Sectors: 1}, 8, api.ErrShape},
		{api.Geometry{Blocks: 8, Pages: 257, Sectors: 1}, 8, api.ErrShape},
		{api.Geometry{Blocks: 8, Pages: 4, Sectors: 0}, 8, api.ErrShape},
		{api.Geometry{Blocks: 8, Pages: 4, Sectors: 9}, 3, api.ErrShape},
		{api.Geometry{Blocks: 4096, Pages: 17, Sectors: 1}, 4096, api.ErrShape},
		{api.Geometry{Blocks: 257, Pages: 256, Sectors: 1}, 257, api.ErrShape},
		{api.Geometry{Blocks: 1 << 62, Pages: 4, Sectors: 1}, 8, api.ErrShape},
		{api.Geometry{Blocks: 8, Pages: math.MaxInt, Sectors: 1}, 8, api.ErrShape},
		{api.Geometry{Blocks: -8, Pages: -4, Sectors: -1}, 0, api.ErrShape},
		{small(), 7, api.ErrPlace},
		{small(), 9, api.ErrPlace},
		{small(), 0, api.ErrPlace},
	} {
		j, e := New(c.g, make([]bool, c.marks), true)
		if e != c.want || (j == nil) != (e != api.OK) {
			t.Errorf("New(%v, %d marks): %d, want %d", c.g, c.marks, e, c.want)
		}
		n, e := Check(c.g, make([]bool, c.marks), true, []api.Command{of(9, 0, 0, 0)})
		if e != c.want || n != 0 {
			t.Errorf("Check(%v, %d marks): %d, %d, want 0, %d", c.g, c.marks, n, e, c.want)
		}
	}
	if j, e := New(small(), nil, true); j != nil || e != api.ErrPlace {
		t.Errorf("R3: New without marks: %d", e)
	}
}

func TestNewKnows(t *testing.T) {
	marks := []bool{1: true, 7: true}
	clean, loaded := made(t, marks, true), made(t, marks, false)
	if n := nexts(t, clean); !slices.Equal(n, []int{0, 4, 0, 0, 0, 0, 0, 4}) {
		t.Errorf("clean: Next %v", n)
	}
	if n := nexts(t, loaded); !slices.Equal(n, []int{4, 4, 4, 4, 4, 4, 4, 4}) {
		t.Errorf("not clean: Next %v", n)
	}
	if !slices.Equal(clean.Wear(), make([]int, 8)) || !slices.Equal(loaded.Wear(), make([]int, 8)) {
		t.Error("a block was erased ahead of all commands")
	}
	marks[1], marks[2] = false, true
	if clean.See(of(erase, 1, 0, 0)) || !clean.See(of(erase, 2, 0, 0)) {
		t.Error("R4: the marks are kept")
	}
}

func TestSee(t *testing.T) {
	for _, c := range []struct {
		what string
		l    []api.Command
		see  []bool
	}{
		{"rising", []api.Command{of(program, 0, 0, 0), of(program, 0, 2, 0), of(program, 0, 1, 0), of(program, 0, 2, 0), of(program, 0, 3, 0), of(program, 0, 3, 0)}, []bool{true, true, false, false, true, false}},
		{"a page that was tried", []api.Command{of(program, 1, 3, api.ErrFailed), of(program, 1, 3, 0), of(erase, 1, 0, 0), of(program, 1, 0, api.ErrOff), of(program, 1, 0, 0), of(program, 1, 1, 0)}, []bool{true, false, true, true, false, true}},
		{"an erase that failed", []api.Command{of(erase, 1, 0, api.ErrFailed), of(program, 1, 0, 0), of(program, 1, 3, 0), of(erase, 1, 0, 0), of(program, 1, 0, 0)}, []bool{true, false, false, true, true}},
		{"an erase that was cut", []api.Command{of(program, 1, 0, 0), of(erase, 1, 0, api.ErrOff), of(program, 1, 1, 0), of(erase, 1, 0, 0), of(program, 1, 0, 0)}, []bool{true, true, false, true, true}},
		{"marked", []api.Command{of(mark, 2, 0, 0), of(erase, 2, 0, 0), of(program, 2, 0, 0), of(mark, 2, 0, 0), of(mark, 2, 0, api.ErrFailed), of(erase, 2, 0, 0), of(erase, 3, 0, 0)}, []bool{true, false, false, true, true, false, true}},
		{"a mark that was not done", []api.Command{of(mark, 3, 0, api.ErrFailed), of(program, 3, 0, 0), of(mark, 3, 0, api.ErrOff), of(program, 3, 0, 0), of(erase, 3, 0, 0)}, []bool{true, true, true, false, true}},
		{"outside", []api.Command{of(program, 8, 0, 0), of(program, -1, 0, 0), of(program, 0, 4, 0), of(program, 0, -1, 0), of(erase, 8, 0, 0), of(erase, -1, 0, 0), of(mark, 8, 0, 0), of(mark, -1, 0, 0), of(program, math.MaxInt, math.MaxInt, 0), of(program, math.MinInt, math.MinInt, 0)}, make([]bool, 10)},
		{"a page plays no part", []api.Command{of(erase, 0, 99, 0), of(mark, 0, -99, 0)}, []bool{true, true}},
		{"kinds", []api.Command{of(0, 0, 0, 0), of(4, 0, 0, 0), of(-1, 0, 0, 0)}, make([]bool, 3)},
		{"refused by the chip", []api.Command{of(program, 0, 0, api.ErrPlace), of(program, 0, 0, api.ErrRule), of(erase, 0, 0, api.ErrRule), of(mark, 0, 0, api.ErrPlace), of(mark, 0, 0, api.ErrPage), of(program, 0, 0, -1), of(program, 0, 0, 0)}, []bool{false, false, false, false, false, false, true}},
	} {
		j := made(t, make([]bool, 8), true)
		for i, x := range c.l {
			if j.See(x) != c.see[i] {
				t.Errorf("%s: the command %d, %v: %v", c.what, i, x, !c.see[i])
			}
		}
	}
}

func TestSeeNotClean(t *testing.T) {
	j := made(t, make([]bool, 8), false)
	for i, c := range []struct {
		command api.Command
		want    bool
	}{{of(program, 0, 0, 0), false}, {of(program, 0, 3, 0), false}, {of(erase, 0, 0, 0), true}, {of(program, 0, 0, 0), true}, {of(program, 1, 0, 0), false}, {of(mark, 1, 0, 0), true}, {of(erase, 1, 0, 0), false}} {
		if j.See(c.command) != c.want {
			t.Errorf("the command %d: %v", i, !c.want)
		}
	}
}

func TestNextAndWear(t *testing.T) {
	j := made(t, []bool{5: true, 7: false}, true)
	for _, c := range []api.Command{
		of(program, 0, 1, 0), of(program, 1, 3, api.ErrFailed), of(program, 2, 2, api.ErrOff),
		of(erase, 3, 0, api.ErrFailed), of(erase, 4, 0, 0), of(erase, 4, 0, 0), of(program, 4, 0, 0), of(erase, 6, 0, api.ErrOff), of(erase, 6, 0, 0),
		of(program, 7, 0, 0), of(mark, 7, 0, 0),
	} {
		if !j.See(c) {
			t.Errorf("%v does not keep the rules", c)
		}
	}
	if n := nexts(t, j); !slices.Equal(n, []int{2, 4, 3, 4, 1, 4, 0, 4}) {
		t.Errorf("Next: %v", n)
	}
	if w := j.Wear(); !slices.Equal(w, []int{0, 0, 0, 1, 2, 0, 2, 0}) {
		t.Errorf("Wear: %v", w)
	}
	for _, b := range []int{8, -1, math.MaxInt, math.MinInt} {
		if n, e := j.Next(b); n != 0 || e != api.ErrPlace {
			t.Errorf("Next(%d) = %d, %d", b, n, e)
		}
	}
	w := j.Wear()
	w[4] = 99
	_ = append(w[:1], 98)
	if !slices.Equal(j.Wear(), []int{0, 0, 0, 1, 2, 0, 2, 0}) {
		t.Error("R4: Wear is not new memory")
	}
}

func TestR5WhatBreaksTheRulesChangesNothing(t *testing.T) {
	j := made(t, []bool{5: true, 7: false}, true)
	j.See(of(program, 0, 1, 0))
	j.See(of(erase, 1, 0, api.ErrFailed))
	next, wear := nexts(t, j), j.Wear()
	for _, c := range []api.Command{of(program, 0, 1, 0), of(program, 0, 4, 0), of(program, 0, 2, api.ErrRule), of(program, 1, 0, 0), of(erase, 5, 0, 0), of(erase, 0, 0, api.ErrRule), of(erase, 8, 0, 0), of(mark, 8, 0, 0), of(mark, 0, 0, api.ErrPlace), of(4, 0, 0, 0), of(0, 1, 0, 0)} {
		if j.See(c) {
			t.Errorf("%v keeps the rules", c)
		}
		if !slices.Equal(nexts(t, j), next) || !slices.Equal(j.Wear(), wear) {
			t.Errorf("%v has changed something", c)
		}
	}
}

// oldKeeps tells by all that was seen and kept the rules, and by nothing else, whether a command does: as the chapter's first words say it.
func oldKeeps(marks []bool, clean bool, seen []api.Command, c api.Command) bool {
	if c.Kind < 1 || c.Kind > 3 || c.Block < 0 || c.Block > 7 || !slices.Contains([]api.Errno{api.OK, api.ErrFailed, api.ErrOff}, c.Status) {
		return false
	}
	marked, erased, tried := marks[c.Block], clean, -1
	for _, s := range seen {
		if s.Block != c.Block {
			continue
		}
		switch s.Kind {
		case mark:
			marked = marked || s.Status == api.OK
		case erase:
			erased, tried = s.Status == api.OK, -1
		case program:
			tried = max(tried, s.Page)
		}
	}
	switch c.Kind {
	case mark:
		return true
	case erase:
		return !marked
	}
	return !marked && erased && c.Page > tried && c.Page < 4
}

func someCommand(r *rand.Rand) api.Command {
	c := of([]int{1, 1, 1, 1, 1, 2, 2, 2, 3, 4}[r.Intn(10)], r.Intn(3), r.Intn(4), []api.Errno{0, 0, 0, api.ErrFailed, api.ErrOff}[r.Intn(5)])
	switch r.Intn(40) {
	case 0:
		c.Block = 8
	case 1:
		c.Page = []int{-1, 4}[r.Intn(2)]
	case 2:
		c.Status = []api.Errno{api.ErrRule, api.ErrPlace, 1}[r.Intn(3)]
	case 3:
		c.Block = r.Intn(8)
	}
	if c.Kind == mark && r.Intn(3) > 0 {
		c.Status = api.ErrFailed
	}
	return c
}

func TestSeeByTheHistory(t *testing.T) {
	for seed := range int64(40) {
		r := rand.New(rand.NewSource(seed))
		marks, clean := []bool{6: true, 7: false}, seed%2 == 0
		j := made(t, marks, clean)
		var seen []api.Command
		for range 120 {
			c := someCommand(r)
			want := oldKeeps(marks, clean, seen, c)
			if j.See(c) != want {
				t.Fatalf("seed %d: %v behind %v: %v", seed, c, seen, !want)
			}
			if want {
				seen = append(seen, c)
			}
		}
	}
}

// someTrace tells commands of which about one in wrong breaks the rules.
func someTrace(t *testing.T, r *rand.Rand, clean bool, n, wrong int) []api.Command {
	j := made(t, make([]bool, 8), clean)
	var trace []api.Command
	for len(trace) < n {
		c := someCommand(r)
		if j.See(c) || wrong > 0 && r.Intn(wrong) == 0 {
			trace = append(trace, c)
		}
	}
	return trace
}

func TestP51CheckTellsTheFirst(t *testing.T) {
	found := 0
	for seed := range int64(60) {
		r := rand.New(rand.NewSource(seed))
		clean := seed%2 == 0
		trace := someTrace(t, r, clean, 60, []int{0, 30, 100}[seed%3])
		was := slices.Clone(trace)
		j := made(t, make([]bool, 8), clean)
		want := -1
		for i, c := range trace {
			if !j.See(c) && want < 0 {
				want = i
				found++
			}
		}
		if n, e := Check(small(), make([]bool, 8), clean, trace); n != want || e != api.OK {
			t.Errorf("seed %d: Check %d, %d, want %d", seed, n, e, want)
		}
		if !slices.Equal(trace, was) {
			t.Error("R4: the trace was changed")
		}
	}
	if found < 20 {
		t.Errorf("only %d traces had something wrong", found)
	}
	for _, trace := range [][]api.Command{nil, {}} {
		if n, e := Check(small(), make([]bool, 8), false, trace); n != -1 || e != api.OK {
			t.Errorf("R3: Check of no trace: %d, %d", n, e)
		}
	}
	if n, e := Check(small(), []bool{1: true, 7: false}, true, []api.Command{of(program, 0, 0, 0), of(erase, 1, 0, 0)}); n != 1 || e != api.OK {
		t.Errorf("Check with a mark: %d, %d", n, e)
	}
}

func TestP53FrontsAndLessAndMarks(t *testing.T) {
	for seed := range int64(40) {
		r := rand.New(rand.NewSource(seed))
		clean := seed%2 == 0
		trace := someTrace(t, r, clean, 40, 0)
		keeps := func(what string, l []api.Command) {
			if n, e := Check(small(), make([]bool, 8), clean, l); n != -1 || e != api.OK {
				t.Fatalf("seed %d: %s: %d, %d", seed, what, n, e)
			}
		}
		for i := range trace {
			keeps("a front", trace[:i])
		}
		keeps("all", trace)
		for range 20 {
			less := slices.DeleteFunc(slices.Clone(trace), func(c api.Command) bool { return c.Kind != erase && r.Intn(3) == 0 })
			keeps("without some Programs and Marks", less)
		}
		for b := range 8 {
			last := len(trace)
			for last > 0 && trace[last-1].Block != b {
				last--
			}
			keeps("a Mark more", slices.Insert(slices.Clone(trace), last, of(mark, b, 0, 0)))
		}
	}
}
