package blocks

import (
	"math/rand"
	"slices"
	"testing"

	"shale/api"
)

// mayBeBut tells whether a list may be beside a last block, but that the victim may be used with nothing in it.
func mayBeBut(g api.Geometry, list []api.Block, last, victim int) bool {
	list = slices.Clone(list)
	if victim >= 0 && list[victim].State == used && list[victim].Live == 0 {
		list[victim].Real = true
	}
	_, e := New(g, list, -1, last)
	return e == api.OK
}

// P11.1, P11.2, P11.3, over books that began with all free. Heads rise from Start to Start, as serials do: what P11.2 says of two Oldest holds of such books (Start alone asks for less).
func TestP11OfAnyCalls(t *testing.T) {
	for seed := range int64(300) {
		r := rand.New(rand.NewSource(seed))
		g := api.Geometry{Blocks: 8, Pages: 4, Sectors: 1}
		list := make([]api.Block, g.Blocks)
		b, _ := New(g, list, -1, -1)
		m := newModel(g, list, -1, -1) // which block is the last one, and the victim, only the model tells
		var ahead, newest uint64
		for range 300 {
			c := someCall(r, m)
			c.head = newest + uint64(1+r.Intn(3))
			good, was := b.Good(), b.List()
			e := c.of(b).e
			c.ofModel(m)
			if c.name == "Start" && e == api.OK {
				newest = c.head
			}
			if !mayBeBut(g, b.List(), m.last, m.victim) {
				t.Fatalf("P11.1: seed %d, %v: %v may not be beside %d", seed, c, b.List(), m.last)
			}
			falls := e == api.OK && (c.name == "Wait" || c.name == "Bad" && was[c.block].State == free)
			if b.Good() < good && !falls {
				t.Fatalf("P11.3: seed %d: Good falls by %v", seed, c)
			}
			ahead = oldestRises(t, b, ahead)
		}
	}
}

// oldestRises fails unless Oldest tells what P11.2 says, and no serial below the one ahead; it tells the serial.
func oldestRises(t *testing.T, b *Blocks, ahead uint64) uint64 {
	t.Helper()
	n, head, is := b.Oldest()
	if !is {
		return ahead
	}
	list := b.List()
	for i, x := range list {
		isLogs := x.State == used || x.State == waiting && !b.book[i].left
		if isLogs && x.Head < list[n].Head {
			t.Fatalf("P11.2: Oldest tells %d, but %d is older: %v", n, i, list)
		}
	}
	if head <= list[n].Head || head < ahead {
		t.Fatalf("P11.2: Oldest tells %d, %d, behind %d: %v", n, head, ahead, list)
	}
	return head
}

// P11.4: each free block once, ahead of any twice.
func TestP11EveryFreeBlock(t *testing.T) {
	for seed := range int64(200) {
		r := rand.New(rand.NewSource(seed))
		g := api.Geometry{Blocks: 8 + r.Intn(8), Pages: 4, Sectors: 1}
		list := make([]api.Block, g.Blocks)
		var all []int
		for n := range list {
			if r.Intn(3) == 0 {
				list[n].State = isBad
			} else {
				all = append(all, n)
			}
		}
		b, _ := New(g, list, r.Intn(g.Blocks+1)-1, -1)
		var picked []int
		head := uint64(1)
		for n, is := b.Pick(); is; n, is = b.Pick() {
			picked = append(picked, n)
			if r.Intn(2) == 0 {
				answered(t, "Bad", b.Bad(n), api.OK)
				continue
			}
			answered(t, "Start", b.Start(n, head), api.OK)
			answered(t, "Real", b.Real(), api.OK)
			answered(t, "Shut", b.Shut(), api.OK)
			head++
		}
		slices.Sort(picked)
		if !slices.Equal(picked, all) {
			t.Fatalf("seed %d: picked %v, free were %v", seed, picked, all)
		}
	}
}
