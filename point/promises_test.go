package point

import (
	"maps"
	"math/rand"
	"reflect"
	"slices"
	"testing"

	"shale/api"
	"shale/chip"
	"shale/log"
	"shale/scan"
)

// life is a chip that is written, saved and mounted again and again.
type life struct {
	t     *testing.T
	r     *rand.Rand
	c     *chip.Chip
	l     *log.Log
	saves int // that answered true
	cuts  int // of a Save
	told  int // how often Restore told a state
}

// looks: where Restore tells a state, it is the scan's (P14.2).
func (x *life) looks(what string) bool {
	x.t.Helper()
	s, is, e := Restore(x.c)
	if e != api.OK {
		x.t.Fatalf("%s: Restore: %d", what, e)
	}
	if is {
		asScanned(x.t, what, x.c, s)
		x.told++
	}
	return is
}

// mounts begins the next life; what it shows is what a scan shows.
func (x *life) mounts(what string) {
	x.t.Helper()
	x.c.On()
	is := x.looks(what)
	l, found, e := Mount(x.c)
	if e != api.OK || found != is {
		x.t.Fatalf("%s: Mount: %v, %d; Restore has told %v", what, found, e, is)
	}
	asScanned(x.t, what, x.c, l.State())
	x.l = l
}

// saveOnce: P14.3 and P14.4.
func (x *life) saveOnce() {
	x.t.Helper()
	ahead := holding(x.t, x.l)
	is, e := Save(x.l)
	switch {
	case e == api.ErrOff && !is:
		x.cuts++
		x.mounts("behind a Save that was cut")
		if now := holding(x.t, x.l); !maps.Equal(now, ahead) {
			x.t.Fatalf("P14.4: behind a Save that was cut: %v, want %v", now, ahead)
		}
	case e != api.OK:
		x.t.Fatalf("Save: %v, %d", is, e)
	case is:
		x.saves++
		if !x.looks("behind a Save") {
			x.t.Fatal("P14.3: Restore tells nothing behind a Save")
		}
		if x.r.Intn(2) == 0 {
			x.mounts("behind a Save")
			if now := holding(x.t, x.l); !maps.Equal(now, ahead) {
				x.t.Fatalf("behind a Save: %v, want %v", now, ahead)
			}
		}
	}
}

func (x *life) goesOn(n int) {
	x.t.Helper()
	for range n {
		switch x.r.Intn(12) {
		case 0, 1:
			x.saveOnce()
		case 2:
			x.mounts("behind a step")
		case 3:
			if x.r.Intn(20) == 0 {
				scan.Format(x.c)
				x.mounts("behind a Format")
			}
		default:
			switch x.l.Step(someRecord(x.r, x.l)) {
			case api.ErrOff, api.ErrBroken:
				x.mounts("behind a step that was cut")
			}
			forgets(x.r, x.l)
		}
		x.looks("in the midst of a life")
	}
}

// P14.2, P14.3, P14.4, and with them P6: over many lives, with cuts and failures at any command.
func TestP142Lives(t *testing.T) {
	saves, cuts, told := 0, 0, 0
	for seed := range int64(80) {
		r := rand.New(rand.NewSource(seed))
		var faults []api.Fault
		for at := 5 + r.Intn(30); len(faults) < 40; at += 1 + r.Intn(25) {
			kind := api.FaultCut
			if seed%3 == 1 || seed%3 == 2 && r.Intn(5) == 0 {
				kind = api.FaultFail
			}
			faults = append(faults, api.Fault{At: at, Kind: kind, Mask: someBytes(r, r.Intn(3)*300), Fill: someOf[byte](r, 0, 255, 85)})
		}
		g := someOf(r, shape(14, 4, 1), shape(16, 5, 1), shape(20, 4, 2), shape(12, 9, 1))
		if seed%5 == 0 {
			faults = nil
		}
		x := &life{t: t, r: r, c: formatted(t, g, faults...)}
		x.mounts("at first")
		x.goesOn(150)
		keepsRules(t, x.c)
		saves, cuts, told = saves+x.saves, cuts+x.cuts, told+x.told
	}
	if saves < 500 || cuts < 60 || told < 1500 {
		t.Errorf("%d saves, %d cuts, %d times told", saves, cuts, told)
	}
	t.Logf("%d saves, %d cuts, %d times told", saves, cuts, told)
}

// story is a log behind some steps, the same again each time.
func story(t *testing.T, seed int64, g api.Geometry, n int, faults ...api.Fault) (*chip.Chip, *log.Log) {
	t.Helper()
	r := rand.New(rand.NewSource(seed))
	c := formatted(t, g, faults...)
	l := mounted(t, c)
	for range n {
		if e := l.Step(someRecord(r, l)); e != api.OK && e != api.ErrSpace {
			t.Fatalf("Step: %d", e)
		}
		forgets(r, l)
	}
	return c, l
}

// P14.4, P14.2: whichever command of a Save is cut, and whatever it had done by then.
func TestP144CutAnywhere(t *testing.T) {
	cuts := 0
	for seed := range int64(20) {
		g := []api.Geometry{shape(24, 4, 1), shape(20, 5, 1), shape(13, 12, 2)}[seed%3]
		r := rand.New(rand.NewSource(seed))
		long := int(3 + 3*seed)
		c, l := story(t, seed, g, long)
		want, n := holding(t, l), len(c.Trace())
		if is, e := Save(l); !is || e != api.OK {
			continue
		}
		for k := n; k < len(c.Trace()); k++ {
			for _, f := range []api.Fault{{}, {Fill: 255}, {Mask: someBytes(r, 60), Fill: 255}, {Mask: someBytes(r, 900)}, {Mask: someBytes(r, 2)}} {
				f.At, f.Kind = k, api.FaultCut
				again, l := story(t, seed, g, long, f)
				if is, e := Save(l); is || e != api.ErrOff {
					t.Fatalf("Save, cut at %d: %v, %d", k, is, e)
				}
				again.On()
				x := &life{t: t, r: r, c: again}
				x.mounts("behind a cut")
				if now := holding(t, x.l); !maps.Equal(now, want) {
					t.Fatalf("P14.4: cut at %d: %v, want %v", k, now, want)
				}
				x.goesOn(5)
				cuts++
			}
		}
	}
	if cuts < 200 {
		t.Errorf("%d cuts", cuts)
	}
}

// P14.3: as long as no writing command is given, Restore tells the state; and behind one that says something it tells none.
func TestP143AsLongAsNothingIsWritten(t *testing.T) {
	told := 0
	for seed := range int64(20) {
		c, l := story(t, seed, shape(16, 5, 1), int(3*seed))
		if is, _ := Save(l); !is {
			continue
		}
		told++
		first := restored(t, "behind a Save", c, true)
		mounted(t, c)
		scan.Mount(c)
		c.Flip(at(first.Cursor, 0), 2070)
		if again := restored(t, "behind a look", c, true); !sameState(first, again) {
			t.Fatalf("Restore: %v, then %v", first, again)
		}
		if e := l.Step(header(l.Table().Fresh(), file("new"))); e == api.OK {
			restored(t, "behind a step", c, false)
		}
	}
	if told < 15 {
		t.Errorf("%d saves", told)
	}
}

// P9, P11: the same again, and with bits that have aged: the same answers and the same trace.
func TestP9AndP11(t *testing.T) {
	for seed := range int64(20) {
		faults := []api.Fault{{At: 30, Kind: api.FaultFail}, {At: 50, Kind: api.FaultFail, Fill: 7}}
		g := shape(16, 5, 1)
		a, la := story(t, seed, g, 40, faults...)
		b, lb := story(t, seed, g, 40, faults...)
		r := rand.New(rand.NewSource(seed))
		age := func() {
			for range 100 {
				b.Flip(at(r.Intn(g.Blocks), r.Intn(g.Pages)), r.Intn(2504))
			}
		}
		age()
		is, e := Save(la)
		if so, f := Save(lb); so != is || e != f {
			t.Fatalf("Save: %v, %d and %v, %d", is, e, so, f)
		}
		age()
		s, is, e := Restore(a)
		if again, so, f := Restore(b); so != is || e != f || !reflect.DeepEqual(s, again) {
			t.Fatalf("Restore: %v, %v, %d and %v, %v, %d", s, is, e, again, so, f)
		}
		_, is, e = Mount(a)
		if _, so, f := Mount(b); so != is || e != f || !slices.Equal(a.Trace(), b.Trace()) {
			t.Fatalf("Mount: %v, %d and %v, %d", is, e, so, f)
		}
	}
}

// K6: what is told is new memory; a log's state is not changed by a Save that writes nothing.
func TestK6Memory(t *testing.T) {
	x := newShelf(t)
	c := x.chip(t)
	one := restored(t, "once", c, true)
	one.Blocks[0].Live, one.Objects[0].Id = 77, 77
	if two := restored(t, "again", c, true); !sameState(two, x.want()) {
		t.Errorf("Restore: %v", two)
	}
	_, l := begun(t, shape(12, 4, 1), api.Fault{At: 5, Kind: api.FaultFail})
	steps(t, l, header(2, file("a")), chunk(2, 0, 9), header(2, api.Node{Type: api.TypeFile, Name: "a", Size: 9}))
	ahead := l.State()
	saved(t, "a block waits", l, false)
	if !reflect.DeepEqual(l.State(), ahead) {
		t.Errorf("the log's state is %v, was %v", l.State(), ahead)
	}
}

// R1: whatever a chip holds, Restore and Mount end; Restore of cells that are anything tells nothing.
func TestR1AnyCells(t *testing.T) {
	for seed := range int64(20) {
		r := rand.New(rand.NewSource(seed))
		m := newChip(t, small(), nil).Image()
		r.Read(m.Cells)
		c, e := chip.Load(m, nil)
		if e != api.OK {
			t.Fatal(e)
		}
		restored(t, "any cells", c, false)
		if l, is, e := Mount(c); l != nil || is || e != api.ErrNone {
			t.Errorf("Mount: %v, %d", is, e)
		}
		if s, e := Read(m.Cells[:r.Intn(400)]); e != api.ErrSave || !reflect.DeepEqual(s, api.State{}) {
			t.Errorf("Read: %v, %d", s, e)
		}
	}
}
