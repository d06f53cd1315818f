package log

import (
	"math/rand"
	"reflect"
	"slices"
	"testing"

	"shale/api"
	"shale/chip"
)

// world is a bench with the tree that its records come to.
type world struct {
	*bench
	tree tree
	c0   int // bytes of a page's data
}

func newWorld(t *testing.T, g api.Geometry, bad []int, faults ...api.Fault) *world {
	t.Helper()
	c := newChip(t, g, bad, faults...)
	first := 0
	for slices.Contains(bad, first) {
		first++
	}
	format(t, c, first)
	return &world{bench: mount(t, c), tree: tree{}, c0: 256 * g.Sectors}
}

// taken tells how many of the commands since the last look there were, and how many of them failed.
func (w *world) taken() (int, int) {
	list := w.c.Trace()[w.seen:]
	w.seen += len(list)
	bad := 0
	for _, x := range list {
		if x.Status == api.ErrFailed {
			bad++
		}
	}
	return len(list), bad
}

// bounded fails if a step has given more commands than P8 lets it; it tells how many failed.
func (w *world) bounded(what string) int {
	w.t.Helper()
	g := w.Geometry()
	n, bad := w.taken()
	if most := (g.Pages+2)*g.Blocks + 8 + 4*bad; n > most {
		w.t.Fatalf("P8: %s gives %d commands, %d of them fail; %d may be", what, n, bad, most)
	}
	return bad
}

// forgets forgets an unlinked object now and then, as one who closes a file does.
func (w *world) forgets(r *rand.Rand) {
	w.t.Helper()
	if id := w.tree.pick(r, isUnlinked); id != 0 && r.Intn(3) == 0 {
		if e := w.Forget(id); e != api.OK {
			w.t.Fatalf("Forget(%d): %d", id, e)
		}
		w.tree = w.tree.without(id)
	}
}

// reads fails unless the log tells the tree: its objects, and what each chunk holds.
func (w *world) reads(what string) {
	w.t.Helper()
	for id, o := range w.tree {
		if n, e := w.Table().Node(id); n != o.node || e != api.OK {
			w.t.Fatalf("%s: the object %d is %v, %d, want %v", what, id, n, e, o.node)
		}
		for k := range 7 {
			want := make([]byte, w.c0)
			copy(want, o.chunks[k])
			got, e := w.Chunk(id, k)
			if o.node.Type != api.TypeFile {
				want, e = nil, e-api.ErrObject
			}
			if e != api.OK || !slices.Equal(got, want) {
				w.t.Fatalf("%s: the chunk %d of %d is wrong, %d", what, k, id, e)
			}
		}
	}
	if len(w.Table().Objects()) != len(w.tree) || w.Usage().Live != w.tree.live() {
		w.t.Fatalf("%s: the tree is %v, want %v", what, w.Table().Objects(), w.tree)
	}
}

func shapes() []api.Geometry {
	return []api.Geometry{shape(8, 4, 1), shape(9, 4, 1), shape(12, 4, 1), shape(11, 7, 1), shape(14, 4, 2), shape(16, 5, 1), shape(9, 16, 1)}
}

// P7, where nothing fails: a step is refused just if it needs a page above the limit. P2, P8, and that the log tells what a scan would find.
func TestP7RoomWithoutFaults(t *testing.T) {
	refused, done := 0, 0
	for i, g := range shapes() {
		r := rand.New(rand.NewSource(int64(i)))
		w := newWorld(t, g, nil)
		for range 500 {
			x := w.tree.someRecord(t, r, w.c0)
			next := w.tree.with(t, x, w.c0)
			u := w.Usage()
			grows := w.tree.grows(x)
			want := api.OK
			if grows && u.Live+1 > u.Limit {
				want = api.ErrSpace
			}
			before := w.State()
			w.step("a step", x, want)
			n := len(w.c.Trace())
			if want == api.OK {
				w.tree = next
				done++
			} else if refused++; n != w.seen || !reflect.DeepEqual(before, w.State()) {
				t.Fatal("R5: a step that was refused has changed something")
			}
			w.bounded("a step")
			w.told("behind a step")
			w.forgets(r)
		}
		w.reads("at the end")
		if u := w.Usage(); u.Good != g.Blocks || u.Limit != (g.Blocks-7)*(g.Pages-1) {
			t.Errorf("Usage of %v: %v", g, u)
		}
		keepsRules(t, w.c, nil)
	}
	if refused < 100 || done < 1500 {
		t.Errorf("%d steps were refused, %d done", refused, done)
	}
}

// sparse are faults of commands that lie some way from one another.
func sparse(r *rand.Rand, kind, gap, n int, fill func() byte) []api.Fault {
	var list []api.Fault
	for at := 4 + r.Intn(gap); len(list) < n; at += 1 + r.Intn(2*gap) {
		list = append(list, api.Fault{At: at, Kind: kind, Mask: someBytes(r, r.Intn(700)), Fill: fill()})
	}
	return list
}

func (w *world) waits() bool {
	return slices.ContainsFunc(w.State().Blocks, func(x api.Block) bool { return x.State == api.BlockWaiting })
}

// L14, and P7 where commands fail: as long as in no step more than one command fails, none where a block waits ahead of it, and Live is not above the limit, what is within the limit is done.
func TestL14RoomWithFaults(t *testing.T) {
	done, fails := 0, 0
	for seed := range int64(120) {
		r := rand.New(rand.NewSource(seed))
		g := shapes()[2+seed%4]
		w := newWorld(t, g, nil, sparse(r, api.FaultFail, 25, 40, func() byte { return 0 })...)
		for range 400 {
			x := w.tree.someRecord(t, r, w.c0)
			next := w.tree.with(t, x, w.c0)
			before, waited, grows := w.Usage(), w.waits(), w.tree.grows(x)
			e := w.Step(x)
			if e == api.OK {
				w.tree = next
			}
			bad := w.bounded("a step")
			if bad > 1 || bad == 1 && waited {
				break
			}
			fails += bad
			if grows && before.Live+1 > before.Limit {
				if e != api.ErrSpace {
					t.Fatalf("seed %d: above the limit: %d", seed, e)
				}
				continue
			}
			after := w.Usage()
			if e != api.OK && next.live() <= after.Limit {
				t.Fatalf("L14: seed %d: %d, though %d pages are within the limit of %d; %v", seed, e, next.live(), after.Limit, w.State().Blocks)
			}
			if e != api.OK || after.Live > after.Limit {
				break
			}
			done++
			w.forgets(r)
		}
		w.reads("at the end")
		keepsRules(t, w.c, nil)
	}
	if done < 3000 || fails < 200 {
		t.Errorf("%d steps were done, %d commands failed", done, fails)
	}
}

// L14 at the limit: whichever commands fail, as long as L14's conditions are kept, each step of a story is done that stays within the limit which they leave.
func TestL14FailAnywhere(t *testing.T) {
	runs := 0
	for seed := range int64(6) {
		r := rand.New(rand.NewSource(seed))
		several := 1 + int(seed%3)
		g := shape(8+several+r.Intn(4), 4+r.Intn(3), 1)
		s := newStory(t, r, g, 90, (g.Blocks-7-several)*(g.Pages-1))
		if seed >= 3 {
			s = fullStory(t, r, g, 120, (g.Blocks-7-several)*(g.Pages-1))
		}
		for k := 2; k < 220; k++ {
			fill := someOf[byte](r, 0, 255)
			faults := []api.Fault{{At: k, Kind: api.FaultFail, Fill: fill}}
			for len(faults) < several {
				faults = append(faults, api.Fault{At: faults[len(faults)-1].At + 1 + r.Intn(40), Kind: api.FaultFail, Fill: fill})
			}
			s.within(t, newWorld(t, g, nil, faults...))
			runs++
		}
	}
	if runs < 1000 {
		t.Errorf("%d runs", runs)
	}
}

// within makes the steps of a story, as long as L14's conditions are kept.
func (s story) within(t *testing.T, w *world) {
	t.Helper()
	for i, x := range s.records {
		waited := w.waits()
		e := w.Step(x)
		if bad := w.bounded("a step"); bad > 1 || bad == 1 && waited {
			return
		}
		if u := w.Usage(); e != api.OK || u.Live > u.Limit {
			t.Fatalf("L14: the step %d: %d, %v, %v, trace %v", i, e, u, w.State().Blocks, w.c.Trace())
		}
	}
	isOne(t, "at the end", w.c, s.trees[len(s.records)])
}

// isOne fails unless the chip holds one of some trees.
func isOne(t *testing.T, what string, c *chip.Chip, trees ...tree) tree {
	t.Helper()
	s := scanned(t, c)
	got := s.tree()
	for _, x := range trees {
		if got.same(x.linked()) {
			return x.linked()
		}
	}
	t.Fatalf("%s: a scan finds %v, want one of %v", what, got, trees)
	return nil
}

// story is a row of records, each one that may be behind those ahead of it, and what they come to.
type story struct {
	records []api.Record
	trees   []tree // ahead of each record, and behind the last one
}

func newStory(t *testing.T, r *rand.Rand, g api.Geometry, n, most int) story {
	t.Helper()
	s := story{trees: []tree{{}}}
	for len(s.records) < n {
		ahead := s.trees[len(s.records)]
		x := ahead.someRecord(t, r, 256*g.Sectors)
		next := ahead.with(t, x, 256*g.Sectors)
		if ahead.grows(x) && ahead.live()+1 > most {
			continue
		}
		s.records, s.trees = append(s.records, x), append(s.trees, next)
	}
	return s
}

// fullStory is a story of one file that takes all room there is, and is written over again and again.
func fullStory(t *testing.T, r *rand.Rand, g api.Geometry, n, most int) story {
	t.Helper()
	c := 256 * g.Sectors
	s := story{trees: []tree{{}}}
	for i := range n {
		x := headerOf(t, 2, api.Node{Type: api.TypeFile, Parent: 1, Name: "a"})
		if i > 0 {
			x = api.Record{Kind: api.KindData, Object: 2, Chunk: i - 1, Data: someBytes(r, c)}
		}
		if i >= most {
			x.Chunk = r.Intn(most - 1)
		}
		s.records, s.trees = append(s.records, x), append(s.trees, s.trees[i].with(t, x, c))
	}
	return s
}

// tell makes the steps of a story till one is not done; it tells how many were, and what the next one answered.
func (s story) tell(l *Log) (int, api.Errno) {
	for i, x := range s.records {
		if e := l.Step(x); e != api.OK {
			return i, e
		}
	}
	return len(s.records), api.OK
}

// L15 and P4: whichever command is cut, and whatever it had done by then, a scan finds what the steps have made, with the one under way or without it. (Where the mask lets nothing through, that is what lies between two commands.)
func TestL15CutAnywhere(t *testing.T) {
	cuts := 0
	for seed := range int64(4) {
		r := rand.New(rand.NewSource(seed))
		g := shapes()[1+seed]
		spoilt := 0
		if seed%2 == 1 {
			spoilt = 2
		}
		s := newStory(t, r, g, 70, (g.Blocks-7-spoilt)*(g.Pages-1))
		if seed < 2 {
			s = fullStory(t, r, g, 70, (g.Blocks-7-spoilt)*(g.Pages-1))
		}
		var faults []api.Fault
		if spoilt > 0 {
			faults = sparse(r, api.FaultFail, 40, spoilt, func() byte { return byte(seed) })
		}
		w := newWorld(t, g, nil, faults...)
		if n, e := s.tell(w.Log); e != api.OK {
			t.Fatalf("seed %d: without a cut the step %d: %d", seed, n, e)
		}
		for k := 2; k < w.c.Count(); k++ {
			for _, f := range []api.Fault{{}, {Fill: 255}, {Mask: someBytes(r, 40), Fill: 255}, {Mask: someBytes(r, 313*g.Pages*g.Sectors)}} {
				f.At, f.Kind = k, api.FaultCut
				s.cutAt(t, g, withFault(faults, f))
				cuts++
			}
		}
	}
	if cuts < 1500 {
		t.Errorf("%d cuts", cuts)
	}
}

// withFault puts a fault among others, in the place of one of the same command.
func withFault(list []api.Fault, f api.Fault) []api.Fault {
	list = slices.DeleteFunc(slices.Clone(list), func(x api.Fault) bool { return x.At >= f.At })
	return append(list, f)
}

// cutAt tells a story till the power is cut, and goes on with it behind a mount.
func (s story) cutAt(t *testing.T, g api.Geometry, faults []api.Fault) {
	t.Helper()
	w := newWorld(t, g, nil, faults...)
	n, e := s.tell(w.Log)
	if e != api.ErrOff || !w.Halted() || !w.c.Dark() {
		t.Fatalf("faults %v: the step %d: %d", faults, n, e)
	}
	if e := w.Step(s.records[n]); e != api.ErrHalted {
		t.Fatalf("behind a cut: %d", e)
	}
	w.c.On()
	got := isOne(t, "behind a cut", w.c, s.trees[n], s.trees[n+1])
	w.bench = mount(t, w.c)
	w.tree = got
	w.reads("behind a mount")
	r := rand.New(rand.NewSource(int64(n)))
	for range 12 {
		x := w.tree.someRecord(t, r, w.c0)
		next := w.tree.with(t, x, w.c0)
		if u := w.Usage(); w.tree.grows(x) && u.Live+1 > u.Limit {
			continue
		}
		w.step("behind a mount", x, api.OK)
		w.tree = next
	}
	isOne(t, "behind further steps", w.c, w.tree)
	w.reads("behind further steps")
	keepsRulesIfMarked(t, w.c)
}

// keepsRulesIfMarked: what a Mark has done that failed or was cut, no judge can tell.
func keepsRulesIfMarked(t *testing.T, c *chip.Chip) {
	t.Helper()
	for _, x := range c.Trace() {
		if x.Kind == api.CmdMark && x.Status != api.OK {
			return
		}
	}
	keepsRules(t, c, nil)
}

// P4 over many lives: cuts again and again, with failures between; the tree is what the steps have made.
func TestP4ManyLives(t *testing.T) {
	lives, broken := 0, 0
	for seed := range int64(60) {
		r := rand.New(rand.NewSource(seed))
		g := someOf(r, shape(14, 4, 1), shape(16, 5, 1), shape(13, 6, 2))
		kinds := []int{api.FaultCut, api.FaultCut, api.FaultFail}
		var faults []api.Fault
		for at := 3 + r.Intn(20); len(faults) < 60; at += 1 + r.Intn(30) {
			faults = append(faults, api.Fault{At: at, Kind: someOf(r, kinds...), Mask: someBytes(r, r.Intn(3)*300), Fill: someOf[byte](r, 0, 255, 85)})
		}
		w := newWorld(t, g, nil, faults...)
		for range 500 {
			x := w.tree.someRecord(t, r, w.c0)
			next := w.tree.with(t, x, w.c0)
			e := w.Step(x)
			w.bounded("a step")
			switch e {
			case api.OK:
				w.tree = next
			case api.ErrSpace:
			case api.ErrOff, api.ErrBroken:
				if !w.Halted() {
					t.Fatalf("seed %d: %d, and it is not halted", seed, e)
				}
				w.c.On()
				w.tree = isOne(t, "behind a cut", w.c, w.tree, next)
				w.bench = mount(t, w.c)
				lives++
				if e == api.ErrBroken {
					broken++
				}
			default:
				t.Fatalf("seed %d: %d", seed, e)
			}
		}
		isOne(t, "at the end", w.c, w.tree)
		w.reads("at the end")
		keepsRulesIfMarked(t, w.c)
	}
	if lives < 400 {
		t.Errorf("%d lives", lives)
	}
	t.Logf("%d lives, %d ended broken", lives, broken)
}

// P9 and P11: the same again, and again with bits that have aged: the same answers, the same trace.
func TestP9AgeAndP11TheSameAgain(t *testing.T) {
	for seed := range int64(6) {
		r := rand.New(rand.NewSource(seed))
		g := shapes()[1+seed%5]
		s := newStory(t, r, g, 150, (g.Blocks-8)*(g.Pages-1))
		faults := sparse(r, api.FaultFail, 60, 2, func() byte { return 15 })
		first, again, old := newWorld(t, g, nil, faults...), newWorld(t, g, nil, faults...), newWorld(t, g, nil, faults...)
		for i, x := range s.records {
			e, f := first.Step(x), again.Step(x)
			age(r, old.c)
			if h := old.Step(x); e != f || e != h {
				t.Fatalf("seed %d, step %d: %d, %d, aged %d", seed, i, e, f, h)
			}
			for k := range 6 {
				a, e := first.Chunk(x.Object, k)
				b, f := old.Chunk(x.Object, k)
				if e != f || !slices.Equal(a, b) {
					t.Fatalf("P9: seed %d, step %d: the chunk %d, %d is another one", seed, i, x.Object, k)
				}
			}
		}
		if !slices.Equal(first.c.Trace(), again.c.Trace()) || !reflect.DeepEqual(first.State(), again.State()) {
			t.Fatalf("P11: seed %d", seed)
		}
		if !slices.Equal(first.c.Trace(), old.c.Trace()) || !reflect.DeepEqual(first.State(), old.State()) {
			t.Fatalf("P9: seed %d", seed)
		}
	}
}

// age flips some bits, as the rules allow it.
func age(r *rand.Rand, c *chip.Chip) {
	g := c.Geometry()
	for range 20 {
		c.Flip(at(r.Intn(g.Blocks), r.Intn(g.Pages)), r.Intn(8*(259*g.Sectors+54)))
	}
}
