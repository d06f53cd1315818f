package volume

import (
	"math/rand"
	"slices"
	"testing"

	"shale/api"
)

// world is a volume and its model, side by side.
type world struct {
	*bench
	r     *rand.Rand
	m     model
	clean bool // no command fails, and the power is not cut: it is known just where there is no room
	lives int
	parts int // calls that ended in their midst, with steps done
}

func newWorld(t *testing.T, r *rand.Rand, g api.Geometry, faults ...api.Fault) *world {
	t.Helper()
	return &world{bench: begun(t, g, faults...), r: r, m: newModel(g), clean: len(faults) == 0}
}

// goes makes a call, and holds it against the model (P3); where the life ends with it, the next one begins (P4).
func (w *world) goes(c call) {
	w.t.Helper()
	want := w.m.do(c)
	got := run(w.Volume, c)
	done := w.done(c, want, got)
	if w.clean {
		w.gives(c.op, want.steps[:done]...)
	} else if len(want.steps) == 0 && len(w.c.Trace()) != w.seen {
		w.t.Fatalf("%v gives writing commands", c)
	}
	w.seen = len(w.c.Trace())
	w.m = want.states[done]
	if done == len(want.steps) {
		if got != want.answer {
			w.t.Fatalf("P3: %v: %v, want %v", c, got, want.answer)
		}
		return
	}
	if got != (answer{e: got.e, number: want.told[done]}) {
		w.t.Fatalf("V14: %v: %v, want the number %d", c, got, want.told[done])
	}
	if done > 0 {
		w.parts++
	}
	if got.e != api.ErrSpace {
		w.ends(got.e, want.states[done], want.states[done+1])
	}
}

// done tells how many of a call's steps were done, as its answer has it.
func (w *world) done(c call, want change, got answer) int {
	w.t.Helper()
	if w.clean {
		return w.roomFor(want, got)
	}
	if got.e == want.e {
		return len(want.steps)
	}
	if got.e != api.ErrSpace && got.e != api.ErrBroken && got.e != api.ErrOff || len(want.steps) == 0 {
		w.t.Fatalf("P3: %v: %v, want %v", c, got, want.answer)
	}
	if c.op != "write" {
		return 0
	}
	n := slices.Index(want.told, got.number)
	if n < 0 {
		w.t.Fatalf("V14: %v: %v bytes, want one of %v", c, got.number, want.told)
	}
	return n
}

// roomFor tells how many steps there is room for (P7).
func (w *world) roomFor(want change, got answer) int {
	w.t.Helper()
	limit := w.Usage().Limit
	for i, r := range want.steps {
		if want.states[i].grows(r) && want.states[i].live()+1 > limit {
			if got.e != api.ErrSpace {
				w.t.Fatalf("P7: %d pages, the limit is %d, and one more is taken: %v", want.states[i].live(), limit, got)
			}
			return i
		}
	}
	return len(want.steps)
}

// ends: a life that has ended in a step takes no step any more; the next one shows the state ahead of it, with the step or without it, and nothing that is unlinked.
func (w *world) ends(e api.Errno, ahead, behind model) {
	w.t.Helper()
	w.m = ahead
	if e == api.ErrOff && !w.outlined(ahead) {
		w.m = behind // its page went well, and the power went while a block was marked behind it
	}
	for range 3 {
		w.halted(w.m.someCall(w.r))
	}
	w.bench = w.again()
	w.lives++
	now := w.shown()
	w.m = ahead.linked()
	if !now.same(w.m) {
		w.m = behind.linked()
	}
	w.shows("behind an end")
}

// outlined tells whether the volume has the headers and the chunks of a model, as far as that can be told without power.
func (w *world) outlined(m model) bool {
	list := w.State().Objects
	for _, x := range list {
		o, there := m.things[x.Id]
		if !there || o.node != x.Node || len(o.pages) != len(x.Chunks) {
			return false
		}
	}
	return len(list) == len(m.things)
}

// halted makes a call in a life that is over (V13).
func (w *world) halted(c call) {
	w.t.Helper()
	want := w.m.do(c)
	got := run(w.Volume, c)
	if w.c.Dark() && needsPage(w.m, c, want) {
		want.answer = answer{e: api.ErrOff}
	} else if len(want.steps) > 0 {
		want.answer = answer{e: api.ErrHalted}
	}
	if got != want.answer {
		w.t.Fatalf("V13: %v: %v, want %v", c, got, want.answer)
	}
	w.m = want.states[0]
	if len(w.c.Trace()) != w.seen {
		w.t.Fatalf("V13: %v gives writing commands", c)
	}
}

// needsPage tells whether a call has to read a page, first of all.
func needsPage(m model, c call, want change) bool {
	pages := m.things[c.id].pages
	if c.op == "read" {
		for i := range want.text {
			if _, there := pages[(c.at+i)/m.c]; there {
				return true
			}
		}
	}
	if len(want.steps) == 0 || want.steps[0].Kind != api.KindData {
		return false
	}
	_, there := pages[want.steps[0].Chunk]
	return there
}

// shown tells what a volume shows, object by object.
func (w *world) shown() model {
	w.t.Helper()
	m := model{c: w.m.c, things: map[int]thing{}}
	for _, x := range w.State().Objects {
		n, e := w.Node(x.Id)
		if e != api.OK || n != x.Node {
			w.t.Fatalf("Node(%d): %v, %d, want %v", x.Id, n, e, x.Node)
		}
		o := thing{node: n, pages: map[int]int{}}
		if n.Type == api.TypeFile {
			b, e := w.Read(x.Id, 0, n.Size)
			if e != api.OK {
				w.t.Fatalf("Read(%d): %d", x.Id, e)
			}
			o.bytes = string(b)
		}
		for _, k := range x.Chunks {
			o.pages[k.Chunk] = k.Chunk
		}
		m.things[x.Id] = o
	}
	return m
}

// shows fails unless a volume shows just what the model has, and has no circles and no twins (V16).
func (w *world) shows(what string) {
	w.t.Helper()
	if now := w.shown(); !now.same(w.m) || now.live() != w.m.live() {
		w.t.Fatalf("%s: %v is shown, want %v", what, now.things, w.m.things)
	}
	if u := w.Usage(); u.Live != w.m.live() {
		w.t.Fatalf("%s: %v, want %d pages", what, u, w.m.live())
	}
	names := map[string]int{}
	for _, id := range w.m.ids() {
		n := w.m.things[id].node
		if n.Parent == 0 {
			continue
		}
		names[string(rune(n.Parent))+n.Name]++
		at, steps := id, 0
		for at != 1 && steps <= len(w.m.things) {
			up, e := w.Node(at)
			if e != api.OK {
				w.t.Fatalf("%s: %d lies in %d, which is not there", what, id, at)
			}
			at, steps = up.Parent, steps+1
		}
		if at != 1 || names[string(rune(n.Parent))+n.Name] > 1 {
			w.t.Fatalf("V16: %s: %v", what, w.m.things)
		}
	}
}

func shapes() []api.Geometry {
	return []api.Geometry{shape(12, 4, 1), shape(14, 5, 1), shape(13, 6, 2), shape(16, 4, 1), shape(30, 8, 1)}
}

// P3 and P7, V14, V16: without faults every call answers just what the model answers, writes just its steps, and is refused just where there is no room.
func TestP3Model(t *testing.T) {
	parts := 0
	for seed := range int64(60) {
		r := rand.New(rand.NewSource(seed))
		w := newWorld(t, r, shapes()[seed%5])
		for i := range 250 {
			w.goes(w.m.someCall(r))
			if i%25 == 0 {
				w.shows("in the midst")
			}
			if i%60 == 59 {
				w.rests()
			}
		}
		w.shows("at the end")
		keepsRules(t, w.c)
		parts += w.parts
	}
	if parts < 50 {
		t.Errorf("%d calls ended in their midst", parts)
	}
}

// rests: a checkpoint now and then, and the next life: what is shown is the same, without what was unlinked.
func (w *world) rests() {
	w.t.Helper()
	if w.r.Intn(2) == 0 {
		if _, e := w.Sync(); e != api.OK && e != api.ErrOff {
			w.t.Fatalf("Sync: %d", e)
		}
	}
	w.bench = w.again()
	w.m = w.m.linked()
	w.shows("behind a rest")
}

// someFaults picks faults with gaps between them.
func someFaults(r *rand.Rand, n, gap int, kinds ...int) []api.Fault {
	var list []api.Fault
	for at := 3 + r.Intn(gap); len(list) < n; at += 1 + r.Intn(gap) {
		list = append(list, api.Fault{At: at, Kind: someOf(r, kinds...), Mask: someBytes(r, r.Intn(3)*300), Fill: someOf[byte](r, 0, 255, 85)})
	}
	return list
}

// P3 where commands fail: the answers are the model's, or the call ends behind its first steps.
func TestP3Failures(t *testing.T) {
	parts, lives := 0, 0
	for seed := range int64(60) {
		r := rand.New(rand.NewSource(seed))
		g := shapes()[seed%5]
		w := newWorld(t, r, g, someFaults(r, 2+r.Intn(9), 20, api.FaultFail)...)
		for i := range 200 {
			w.goes(w.m.someCall(r))
			if i%40 == 0 {
				w.shows("in the midst")
			}
		}
		w.shows("at the end")
		keepsRules(t, w.c)
		parts, lives = parts+w.parts, lives+w.lives
	}
	if parts < 30 || lives < 10 {
		t.Errorf("%d calls ended in their midst, %d lives", parts, lives)
	}
}

// P4 and P5, V15, over many lives: cuts again and again, failures, rests and checkpoints between.
func TestP4ManyLives(t *testing.T) {
	lives, parts := 0, 0
	for seed := range int64(60) {
		r := rand.New(rand.NewSource(seed))
		g := someOf(r, shapes()...)
		w := newWorld(t, r, g, someFaults(r, 60, 25, api.FaultCut, api.FaultCut, api.FaultCut, api.FaultFail)...)
		for range 300 {
			w.goes(w.m.someCall(r))
			if r.Intn(30) == 0 {
				w.rests()
			}
		}
		w.shows("at the end")
		keepsRules(t, w.c)
		lives, parts = lives+w.lives, parts+w.parts
	}
	if lives < 500 || parts < 50 {
		t.Errorf("%d lives, %d calls ended in their midst", lives, parts)
	}
}

// story is a row of calls, chosen by what the model has; each run of it makes the same ones till something ends it.
type story struct {
	seed  int64
	shape api.Geometry
	long  int
}

func (s story) tell(t *testing.T, faults ...api.Fault) *world {
	t.Helper()
	r := rand.New(rand.NewSource(s.seed))
	w := newWorld(t, r, s.shape, faults...)
	for range s.long {
		if w.lives > 0 {
			break
		}
		w.goes(w.m.someCall(r))
	}
	return w
}

// P4, V15: whichever command is cut, and whatever it had done by then, also where others have failed; and so again if the power is cut in the calls behind it.
func TestP4CutAnywhere(t *testing.T) {
	cuts := 0
	for seed := range int64(6) {
		s := story{seed, shapes()[seed%5], 80}
		r := rand.New(rand.NewSource(seed))
		var fails []api.Fault
		if seed%2 == 1 {
			fails = someFaults(r, 3, 40, api.FaultFail)
		}
		n := s.tell(t, fails...).c.Count()
		for k := 2; k < n; k++ {
			for _, f := range []api.Fault{{}, {Fill: 255}, {Mask: someBytes(r, 40), Fill: 255}, {Mask: someBytes(r, 900)}} {
				f.At, f.Kind = k, api.FaultCut
				later := api.Fault{At: k + 1 + r.Intn(30), Kind: api.FaultCut, Mask: someBytes(r, 20), Fill: 255}
				w := s.tell(t, append(faultsAhead(fails, k), f, later)...)
				if w.lives != 1 {
					t.Fatalf("cut at %d: %d lives", k, w.lives)
				}
				for range 20 {
					w.goes(w.m.someCall(r))
				}
				w.shows("behind a cut")
				keepsRules(t, w.c)
				cuts++
			}
		}
	}
	if cuts < 1000 {
		t.Errorf("%d cuts", cuts)
	}
}

// faultsAhead tells those faults that come ahead of a command.
func faultsAhead(list []api.Fault, k int) []api.Fault {
	return slices.DeleteFunc(slices.Clone(list), func(f api.Fault) bool { return f.At >= k })
}

// V15, and with it P4: of a Write that is cut, just the first steps are there, each of them whole.
func TestV15WriteCut(t *testing.T) {
	data := string(someBytes(rand.New(rand.NewSource(1)), 2000))
	seen := map[int]int{}
	for k := 4; k < 18; k++ {
		for _, fill := range []byte{0, 255} {
			b := begun(t, roomy(), api.Fault{At: k, Kind: api.FaultCut, Fill: fill})
			if _, e := b.Make(fileIn(1, "a")); e != api.OK {
				continue
			}
			n, e := b.Write(2, 100, []byte(data))
			if e == api.OK {
				continue
			}
			b.is("a Write that is cut", e, api.ErrOff)
			w := b.again()
			got, _ := w.Node(2)
			told := max(0, got.Size-100)
			if told != n && told != min(2000, n+256-(n+100)%256) {
				t.Errorf("cut at %d: %d bytes were told, %d are there", k, n, told)
			}
			if got.Size > 0 {
				w.reads(2, 0, 9999, zeros(100)+data[:told])
			}
			seen[told]++
		}
	}
	if len(seen) < 8 {
		t.Errorf("bytes that were there: %v", seen)
	}
}

// P9 and P11: the same again, and again with bits that have aged: the same answers, the same trace, the same objects.
func TestP9AgeAndP11TheSameAgain(t *testing.T) {
	for seed := range int64(12) {
		r := rand.New(rand.NewSource(seed))
		faults := someFaults(r, 5, 40, api.FaultFail)
		g := shapes()[seed%5]
		m := newModel(g)
		list := []*bench{begun(t, g, faults...), begun(t, g, faults...), begun(t, g, faults...)}
		old := list[2]
		for i := range 200 {
			c := m.someCall(r)
			ages(r, old.c, 10)
			first := run(list[0].Volume, c)
			for _, b := range list[1:] {
				if got := run(b.Volume, c); got != first {
					t.Fatalf("seed %d: %v: %v, and again %v", seed, c, first, got)
				}
			}
			if x := m.do(c); first.e == x.e {
				m = x.states[len(x.steps)]
			}
			if i%50 == 49 {
				for k, b := range list {
					b.Sync()
					list[k] = b.again()
				}
				old = list[2]
				m = m.linked()
			}
		}
		for _, b := range list[1:] {
			if !slices.Equal(b.c.Trace(), list[0].c.Trace()) {
				t.Fatalf("seed %d: another trace", seed)
			}
		}
	}
}

// P8, for each step of a call: the commands that it gives.
func TestP8Bounds(t *testing.T) {
	for seed := range int64(20) {
		r := rand.New(rand.NewSource(seed))
		g := shapes()[seed%4]
		w := newWorld(t, r, g, someFaults(r, 6, 50, api.FaultFail)...)
		for range 150 {
			c := w.m.someCall(r)
			steps, n := len(w.m.do(c).steps), len(w.c.Trace())
			w.goes(c)
			most := steps * ((g.Pages+2)*g.Blocks + 8)
			for _, x := range w.c.Trace()[n:] {
				if x.Status != api.OK {
					most += 4
				}
			}
			if got := len(w.c.Trace()) - n; got > most {
				t.Fatalf("P8: %v: %d commands, at most %d may be", c, got, most)
			}
		}
	}
}
