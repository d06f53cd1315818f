package blocks

import (
	"math"
	"slices"
	"testing"

	"shale/api"
)

func TestLive(t *testing.T) {
	list := []api.Block{{State: used, Head: 3, Live: 2}, {State: used, Head: 7, Real: true, Live: 1}, {State: open, Head: 9}, {State: leaving, Head: 1}, {State: waiting, Head: 5, Live: 1}, {}, {State: held}, {State: isBad}}
	for _, c := range []struct {
		block, more int
		e           api.Errno
		want        api.Block
	}{
		{0, 1, api.OK, api.Block{State: used, Head: 3, Live: 3}},
		{0, 2, api.ErrBlock, list[0]},
		{0, -3, api.ErrBlock, list[0]},
		{0, math.MaxInt, api.ErrBlock, list[0]},
		{0, math.MinInt, api.ErrBlock, list[0]},
		{0, -2, api.OK, api.Block{}},
		{1, -1, api.OK, api.Block{State: used, Head: 7, Real: true}},
		{2, 3, api.OK, api.Block{State: open, Head: 9, Live: 3}},
		{2, 0, api.OK, list[2]},
		{2, -1, api.ErrBlock, list[2]},
		{4, 2, api.OK, api.Block{State: waiting, Head: 5, Live: 3}},
		{4, -1, api.OK, api.Block{State: waiting, Head: 5}},
		{3, 0, api.ErrBlock, list[3]},
		{5, 1, api.ErrBlock, list[5]},
		{6, 1, api.ErrBlock, list[6]},
		{7, 1, api.ErrBlock, list[7]},
	} {
		b := made(t, 4, 6, list...)
		answered(t, "Live", b.Live(c.block, c.more), c.e)
		stands(t, b, c.block, c.want)
	}
	b := made(t, 0, 0, api.Block{State: used, Head: 3, Live: 2})
	answered(t, "Live", b.Live(0, -2), api.OK)
	stands(t, b, 0, api.Block{State: held})
	answered(t, "Live of one that is held now", b.Live(0, 1), api.ErrBlock)
	b = made(t, 0, 0, api.Block{State: waiting, Head: 3, Live: 1})
	answered(t, "Live", b.Live(0, -1), api.OK)
	answered(t, "Leave", b.Leave(0), api.OK)
	answered(t, "Live of one that has left", b.Live(0, 1), api.ErrBlock)
}

func TestRealShutWait(t *testing.T) {
	for _, c := range []struct {
		what       string
		x          api.Block
		real       bool
		last       int
		shut, wait api.Block
	}{
		{"nothing in it", api.Block{State: open, Head: 3}, false, -1, api.Block{}, api.Block{State: waiting, Head: 3}},
		{"nothing in the last one", api.Block{State: open, Head: 3}, false, 0, api.Block{State: held}, api.Block{State: waiting, Head: 3}},
		{"real", api.Block{State: open, Head: 3}, true, 0, api.Block{State: used, Head: 3, Real: true}, api.Block{State: waiting, Head: 3, Real: true}},
		{"copies", api.Block{State: open, Head: 3, Live: 2}, false, -1, api.Block{State: used, Head: 3, Live: 2}, api.Block{State: waiting, Head: 3, Live: 2}},
		{"both", api.Block{State: open, Head: 3, Live: 3}, true, 0, api.Block{State: used, Head: 3, Real: true, Live: 3}, api.Block{State: waiting, Head: 3, Real: true, Live: 3}},
	} {
		for _, shut := range []bool{true, false} {
			b := made(t, 0, c.last, c.x)
			if c.real {
				answered(t, "Real", b.Real(), api.OK)
				answered(t, "Real again", b.Real(), api.OK)
			}
			if shut {
				answered(t, c.what, b.Shut(), api.OK)
				stands(t, b, 0, c.shut)
			} else {
				answered(t, c.what, b.Wait(), api.OK)
				stands(t, b, 0, c.wait)
			}
			if _, is := b.Open(); is {
				t.Errorf("%s: it is open still", c.what)
			}
		}
	}
}

func TestBad(t *testing.T) {
	for _, c := range []struct {
		what  string
		x     api.Block
		last  int
		leave bool
		want  api.Errno
	}{
		{"free", api.Block{}, -1, false, api.OK},
		{"waiting, nothing in it", api.Block{State: waiting, Head: 3}, -1, false, api.OK},
		{"waiting, nothing in it, the last one", api.Block{State: waiting, Head: 3}, 0, false, api.ErrBlock},
		{"waiting, real", api.Block{State: waiting, Head: 3, Real: true}, -1, false, api.ErrBlock},
		{"waiting, live", api.Block{State: waiting, Head: 3, Live: 1}, -1, false, api.ErrBlock},
		{"waiting, real, left", api.Block{State: waiting, Head: 3, Real: true}, -1, true, api.OK},
		{"waiting, real, left, the last one", api.Block{State: waiting, Head: 3, Real: true}, 0, true, api.ErrBlock},
		{"used", api.Block{State: used, Head: 3, Real: true}, -1, false, api.ErrBlock},
		{"open", api.Block{State: open, Head: 3}, -1, false, api.ErrBlock},
		{"leaving", api.Block{State: leaving, Head: 3}, -1, false, api.ErrBlock},
		{"held", api.Block{State: held}, 0, false, api.ErrBlock},
		{"bad", api.Block{State: isBad}, -1, false, api.ErrBlock},
	} {
		b := made(t, 0, c.last, c.x)
		if c.leave {
			answered(t, "Leave", b.Leave(0), api.OK)
		}
		answered(t, c.what, b.Bad(0), c.want)
		if c.want == api.OK {
			stands(t, b, 0, api.Block{State: isBad})
		} else {
			stands(t, b, 0, c.x)
		}
	}
}

func TestOldest(t *testing.T) {
	full := api.Block{State: used, Head: 5, Real: true}
	for _, c := range []struct {
		what string
		list []api.Block
		n    int
		head uint64
		is   bool
	}{
		{"none", nil, 0, 0, false},
		{"one used", []api.Block{{}, full}, 0, 0, false},
		{"one open", []api.Block{{}, {State: open, Head: 1}}, 0, 0, false},
		{"used, then open", []api.Block{{State: open, Head: 9}, full}, 1, 9, true},
		{"open, then used", []api.Block{{State: open, Head: 1}, full}, 0, 0, false},
		{"open, used, used", []api.Block{{State: open, Head: 1}, full, {State: used, Head: 7, Live: 1}}, 1, 7, true},
		{"used, open, used", []api.Block{{State: open, Head: 6}, full, {State: used, Head: 7, Live: 1}}, 1, 6, true},
		{"waiting", []api.Block{{State: waiting, Head: 2}, full}, 0, 5, true},
		{"leaving counts no more", []api.Block{{State: leaving, Head: 2}, full, {State: used, Head: 8, Live: 1}}, 1, 8, true},
		{"leaving is none behind", []api.Block{{State: leaving, Head: 9}, full}, 0, 0, false},
		{"bad and held", []api.Block{{State: isBad}, full, {State: held}}, 0, 0, false},
		{"the order of heads, not of numbers", []api.Block{{State: used, Head: 8, Live: 1}, full, {State: used, Head: 2, Live: 1}, {State: waiting, Head: 4, Live: 1}}, 2, 4, true},
	} {
		last := slices.IndexFunc(c.list, func(x api.Block) bool { return x.State == held })
		b := made(t, -1, last, c.list...)
		if n, head, is := b.Oldest(); n != c.n || head != c.head || is != c.is {
			t.Errorf("%s: %d, %d, %v", c.what, n, head, is)
		}
		cleans(t, b, c.n, c.head, c.is)
		oldestIs(t, b, c.n, c.head, c.is)
	}
	b := made(t, -1, -1, api.Block{State: waiting, Head: 2}, full, api.Block{State: used, Head: 7, Live: 1})
	answered(t, "Leave", b.Leave(0), api.OK)
	oldestIs(t, b, 1, 7, true)
	counts(t, b, 7, 5, 2)
}

// The victim stays used while it is cleaned, and is emptied when another one becomes it, or none.
func TestVictim(t *testing.T) {
	copies := func(head uint64) api.Block { return api.Block{State: used, Head: head, Live: 1} }
	b := made(t, -1, -1, copies(2), copies(4), api.Block{State: open, Head: 9})
	cleans(t, b, 0, 4, true)
	answered(t, "Live of the victim", b.Live(0, -1), api.OK)
	stands(t, b, 0, api.Block{State: used, Head: 2})
	answered(t, "Live of another one", b.Live(1, -1), api.OK)
	stands(t, b, 1, api.Block{})
	counts(t, b, 8, 6, 2)
	cleans(t, b, 0, 9, true)
	stands(t, b, 0, api.Block{State: used, Head: 2})
	answered(t, "Leave", b.Leave(0), api.OK)
	stands(t, b, 0, api.Block{State: leaving, Head: 2})
	cleans(t, b, 0, 0, false)

	b = made(t, -1, -1, copies(2), api.Block{State: open, Head: 4})
	cleans(t, b, 0, 4, true)
	answered(t, "Live of the victim", b.Live(0, -1), api.OK)
	answered(t, "Shut", b.Shut(), api.OK)
	stands(t, b, 1, api.Block{})
	cleans(t, b, 0, 0, false)
	stands(t, b, 0, api.Block{})

	b = made(t, -1, 1, api.Block{State: open, Head: 1, Real: true}, copies(2), copies(4))
	cleans(t, b, 1, 4, true)
	answered(t, "Live of the victim", b.Live(1, -1), api.OK)
	answered(t, "Shut", b.Shut(), api.OK)
	cleans(t, b, 0, 2, true)
	stands(t, b, 1, api.Block{State: held})
	answered(t, "Leave of the new victim", b.Leave(0), api.OK)
	stands(t, b, 0, api.Block{State: leaving, Head: 1, Real: true})

	b = made(t, -1, -1, copies(2), copies(4), copies(6))
	cleans(t, b, 0, 4, true)
	oldestIs(t, b, 0, 4, true)
	answered(t, "Live", b.Live(0, -1), api.OK)
	answered(t, "Live", b.Live(0, 1), api.OK)
	stands(t, b, 0, copies(2))
}

func TestLeave(t *testing.T) {
	list := []api.Block{{State: used, Head: 3, Live: 2}, {State: used, Head: 7, Real: true}, {State: open, Head: 9}, {State: leaving, Head: 1}, {State: waiting, Head: 5, Real: true}, {}, {State: waiting, Head: 6, Live: 1}, {State: isBad}}
	for n, want := range []api.Errno{api.ErrBlock, api.OK, api.ErrBlock, api.ErrBlock, api.OK, api.ErrBlock, api.ErrBlock, api.ErrBlock} {
		b := made(t, -1, 1, list...)
		answered(t, "Leave", b.Leave(n), want)
		expected := slices.Clone(list)
		if n == 1 {
			expected[1].State = leaving
		}
		if !slices.Equal(b.List(), expected) {
			t.Errorf("Leave(%d): %v", n, b.List())
		}
		answered(t, "Leave again", b.Leave(n), api.ErrBlock)
	}
}

func TestCommit(t *testing.T) {
	b := made(t, -1, 1, api.Block{State: waiting, Head: 2}, api.Block{State: held}, api.Block{State: leaving, Head: 3, Real: true}, api.Block{State: leaving, Head: 4}, api.Block{State: open, Head: 9}, api.Block{State: waiting, Head: 5, Real: true}, api.Block{State: waiting, Head: 6, Live: 1}, api.Block{State: waiting, Head: 7, Real: true})
	answered(t, "Leave", b.Leave(7), api.OK)
	counts(t, b, 4, 3, 4)
	commits(t, b, 4, 0, 7)
	commits(t, b, 4, 0, 7)
	want := []api.Block{{State: waiting, Head: 2}, {}, {}, {}, {State: open, Head: 9}, {State: waiting, Head: 5, Real: true}, {State: waiting, Head: 6, Live: 1}, {State: waiting, Head: 7, Real: true}}
	if !slices.Equal(b.List(), want) {
		t.Errorf("behind Commit: %v", b.List())
	}
	answered(t, "Bad", b.Bad(0), api.OK)
	answered(t, "Bad", b.Bad(7), api.OK)
	commits(t, b, 4)
	answered(t, "Shut", b.Shut(), api.OK)
	stands(t, b, 4, api.Block{State: held})
	counts(t, b, 4, 4, 2)
}
