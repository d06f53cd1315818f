package files

import (
	"math/rand"
	"slices"
	"strings"
	"testing"

	"shale/api"
)

// world is a disk and its model, side by side.
type world struct {
	*bench
	r     *rand.Rand
	m     model
	clean bool // no command fails, and the power is not cut: it is known just where there is no room
	lives int
	parts int // calls that ended in their midst, with steps done
	ends  map[api.Errno]int
}

func newWorld(t *testing.T, r *rand.Rand, g api.Geometry, faults ...api.Fault) *world {
	t.Helper()
	return &world{bench: begun(t, g, faults...), r: r, m: newModel(g), clean: len(faults) == 0, ends: map[api.Errno]int{}}
}

// goes makes a call, and holds it against the model (P3); where the life ends with it, the next one begins (P4).
func (w *world) goes(c api.Call) {
	w.t.Helper()
	want := w.m.do(c)
	got := w.Call(c)
	w.ends[got.E]++
	if c.Op == api.CallUsage && got.E == api.OK {
		want.Usage.Good, want.Usage.Limit = got.Usage.Good, got.Usage.Limit // these the chip alone knows
	}
	done := w.done(c, want, got)
	if len(want.grows) == 0 && c.Op != api.CallSync && c.Op != api.CallUnmount {
		w.silent("a call without steps")
	} else if w.clean {
		w.gives("P3", done)
	}
	w.seen = len(w.c.Trace())
	w.m = want.states[done]
	switch {
	case got.E == api.ErrOff && len(want.grows) == 0: // a checkpoint was cut
		w.begins(w.m, w.m)
	case done == len(want.grows):
		if !sameReply(got, want.Reply) {
			w.t.Fatalf("P3: %v: %v, want %v", c, got, want.Reply)
		}
	default:
		if !sameReply(got, api.Reply{E: got.E, Number: want.told[done]}) {
			w.t.Fatalf("P3: %v: %v, want the number %d", c, got, want.told[done])
		}
		w.stopped(got.E, want, done)
	}
}

// stopped: a call has ended ahead of a step of its own.
func (w *world) stopped(e api.Errno, want change, done int) {
	w.t.Helper()
	if done > 0 {
		w.parts++
	}
	if e == api.ErrSpace {
		return
	}
	if e == api.ErrBroken || w.outlined() { // else its page went well, and the power went while a block was marked behind it
		for range 3 {
			w.halted(w.m.someCall(w.r))
		}
	}
	w.begins(want.states[done], want.states[done+1])
}

// done tells how many of a call's steps were done, as its answer has it.
func (w *world) done(c api.Call, want change, got api.Reply) int {
	w.t.Helper()
	if w.clean {
		return w.roomFor(c, want, got)
	}
	if got.E == want.E {
		return len(want.grows)
	}
	if got.E == api.ErrOff && (c.Op == api.CallSync || c.Op == api.CallUnmount) {
		return 0
	}
	if got.E != api.ErrSpace && got.E != api.ErrBroken && got.E != api.ErrOff || len(want.grows) == 0 {
		w.t.Fatalf("P3: %v: %v, want %v", c, got, want.Reply)
	}
	n := slices.Index(want.told, got.Number)
	if n < 0 {
		w.t.Fatalf("P3: %v: %v bytes, want one of %v", c, got.Number, want.told)
	}
	return n
}

// roomFor tells how many steps there is room for (P7).
func (w *world) roomFor(c api.Call, want change, got api.Reply) int {
	w.t.Helper()
	if len(want.grows) == 0 {
		return 0
	}
	u, e := w.Usage()
	if e != api.OK {
		w.t.Fatalf("Usage: %d", e)
	}
	for i, grows := range want.grows {
		if grows && want.states[i].live()+1 > u.Limit {
			if got.E != api.ErrSpace {
				w.t.Fatalf("P7: %v: %d pages, the limit is %d, and one more is taken: %v", c, want.states[i].live(), u.Limit, got)
			}
			return i
		}
	}
	return len(want.grows)
}

// begins: the next life shows how it stood ahead of the last step, or behind it, without handles and what was unlinked.
func (w *world) begins(ahead, behind model) {
	w.t.Helper()
	w.bench = w.again()
	w.lives++
	w.m = ahead.nextLife()
	if tree, _ := w.Tree(); !sameTree(tree, w.m.leaves(1)) {
		w.m = behind.nextLife()
	}
	w.shows("P4: the next life")
}

// outlined tells whether the disk has the headers and the chunks of the model, as far as that can be told without power.
func (w *world) outlined() bool {
	s, _ := w.State()
	for _, x := range s.Objects {
		o, there := w.m.things[x.Id]
		if !there || o.node != x.Node || len(o.pages) != len(x.Chunks) {
			return false
		}
	}
	return len(s.Objects) == len(w.m.things)
}

// halted makes a call in a life that takes no step any more: what makes none goes on, but pages need the power.
func (w *world) halted(c api.Call) {
	w.t.Helper()
	want := w.m.do(c)
	got := w.Call(c)
	if w.c.Dark() && want.reads {
		want.Reply = api.Reply{E: api.ErrOff}
	} else if len(want.grows) > 0 {
		want.Reply = api.Reply{E: api.ErrHalted}
	} else {
		w.m = want.states[0]
	}
	want.Usage, got.Usage = api.Usage{}, api.Usage{}
	if !sameReply(got, want.Reply) {
		w.t.Fatalf("a life that is over: %v: %v, want %v", c, got, want.Reply)
	}
	w.silent("a life that is over")
}

// shows fails unless a disk shows just what the model has, and keeps P17.1 and P17.3.
func (w *world) shows(what string) {
	w.t.Helper()
	tree, e := w.Tree()
	if want := w.m.leaves(1); e != api.OK || !sameTree(tree, want) {
		w.t.Fatalf("%s: the tree is %v, %d, want %v", what, tree, e, want)
	}
	if u, e := w.Usage(); e != api.OK || u.Live != w.m.live() || !w.outlined() {
		w.t.Fatalf("%s: %v, %d, %v, want %d pages, %v", what, u, e, w.objects(), w.m.live(), w.m.ids())
	}
	for h, g := range w.m.handles {
		want := api.ErrMode
		if g.flags&api.OpenRead != 0 {
			want = api.OK
		}
		b, e := w.Read(h, 0, 1<<40)
		if e != want || e == api.OK && string(b) != w.m.things[g.file].bytes {
			w.t.Fatalf("P17.2: %s: the handle %d reads %d bytes, %d", what, h, len(b), e)
		}
	}
	w.keepsTree(tree)
}

// keepsTree holds a tree against what else is told of it (P17.1, P17.3).
func (w *world) keepsTree(tree []api.Leaf) {
	w.t.Helper()
	paths := map[string]int{}
	for i, x := range tree {
		s, e := w.Look(x.Path)
		if e != api.OK || s.Type != x.Type || s.Mode != x.Mode || s.Stamp != x.Stamp || x.Type == api.TypeFile && s.Size != len(x.Data) {
			w.t.Fatalf("P17.3: Look(%q): %v, %d, the leaf is %v", x.Path, s, e, x)
		}
		if paths[x.Path]++; paths[x.Path] > 1 || !fits(x.Path) {
			w.t.Fatalf("P17.1: the path %q", x.Path)
		}
		if x.Type != api.TypeDir {
			continue
		}
		list, e := w.List(x.Path)
		if got := entryNames(list); e != api.OK || !slices.Equal(got, namesBelow(tree[i:])) {
			w.t.Fatalf("P17.3: List(%q): %q, %d, want %q", x.Path, got, e, namesBelow(tree[i:]))
		}
	}
}

func entryNames(list []api.Entry) []string {
	var names []string
	for _, x := range list {
		names = append(names, x.Name)
	}
	return names
}

// namesBelow tells the last names of the leaves that follow the first one, one name deeper.
func namesBelow(tree []api.Leaf) []string {
	var names []string
	front := strings.TrimSuffix(tree[0].Path, "/") + "/"
	for _, x := range tree[1:] {
		name, below := strings.CutPrefix(x.Path, front)
		if !below {
			break
		}
		if !strings.Contains(name, "/") {
			names = append(names, name)
		}
	}
	return names
}

func shapes() []api.Geometry {
	return []api.Geometry{shape(12, 4, 1), shape(14, 5, 1), shape(13, 6, 2), shape(16, 4, 1), shape(30, 8, 1)}
}

// rests: a checkpoint now and then, or an Unmount, and the next life shows the same (P17.6).
func (w *world) rests() {
	w.t.Helper()
	lives := w.lives
	op := someOf(w.r, api.CallUnmount, api.CallUnmount, api.CallSync, 0)
	if op != 0 {
		w.goes(api.Call{Op: op})
	}
	if w.lives == lives && (op != api.CallSync || w.r.Intn(2) == 0) {
		w.begins(w.m, w.m)
	}
}

// P3 and P7, P17.1, P17.2, P17.3, P17.5: without faults every call answers just what the model answers, makes just its steps, and is refused just where there is no room.
func TestP3Model(t *testing.T) {
	parts := 0
	ends := map[api.Errno]int{}
	for seed := range int64(120) {
		r := rand.New(rand.NewSource(seed))
		w := newWorld(t, r, shapes()[seed%5])
		w.ends = ends
		for i := range 300 {
			w.goes(w.m.someCall(r))
			if i%30 == 0 {
				w.shows("in the midst")
			}
			if i%70 == 69 {
				w.rests()
			}
		}
		w.shows("at the end")
		keepsRules(t, w.c)
		parts += w.parts
	}
	for _, e := range []api.Errno{api.OK, api.ErrNode, api.ErrTarget, api.ErrSpace, api.ErrBig, api.ErrRange, api.ErrPath, api.ErrLong, api.ErrMissing, api.ErrExists, api.ErrNotDir, api.ErrIsDir, api.ErrUsed, api.ErrHandle, api.ErrMode, api.ErrLoop, api.ErrInto, api.ErrRoot, api.ErrFlags, api.ErrType} {
		if ends[e] < 5 {
			t.Errorf("%d calls answered %d", ends[e], e)
		}
	}
	if parts < 30 {
		t.Errorf("%d calls ended in their midst", parts)
	}
}

// someFaults picks faults with gaps between them.
func someFaults(r *rand.Rand, n, gap int, kinds ...int) []api.Fault {
	var list []api.Fault
	for at := 3 + r.Intn(gap); len(list) < n; at += 1 + r.Intn(gap) {
		list = append(list, api.Fault{At: at, Kind: someOf(r, kinds...), Mask: someBytes(r, r.Intn(3)*300), Fill: someOf[byte](r, 0, 255, 85)})
	}
	return list
}

// P3 where commands fail: the answers are the model's, or the call ends behind its first steps.
func TestP3Failures(t *testing.T) {
	parts, lives := 0, 0
	for seed := range int64(60) {
		r := rand.New(rand.NewSource(seed))
		w := newWorld(t, r, shapes()[seed%5], someFaults(r, 2+r.Intn(9), 20, api.FaultFail)...)
		for i := range 250 {
			w.goes(w.m.someCall(r))
			if i%40 == 0 {
				w.shows("in the midst")
			}
			if i%90 == 89 {
				w.rests()
			}
		}
		w.shows("at the end")
		keepsRules(t, w.c)
		parts, lives = parts+w.parts, lives+w.lives
	}
	if parts < 20 || lives < 60 {
		t.Errorf("%d calls ended in their midst, %d lives", parts, lives)
	}
}

// P4 and P5, over many lives: cuts again and again, failures, rests and checkpoints between.
func TestP4ManyLives(t *testing.T) {
	lives, parts, cuts := 0, 0, 0
	for seed := range int64(60) {
		r := rand.New(rand.NewSource(seed))
		w := newWorld(t, r, someOf(r, shapes()...), someFaults(r, 60, 25, api.FaultCut, api.FaultCut, api.FaultCut, api.FaultFail)...)
		for range 300 {
			w.goes(w.m.someCall(r))
			if r.Intn(30) == 0 {
				w.rests()
			}
		}
		w.shows("at the end")
		keepsRules(t, w.c)
		lives, parts, cuts = lives+w.lives, parts+w.parts, cuts+w.ends[api.ErrOff]
	}
	if lives < 500 || parts < 40 || cuts < 300 {
		t.Errorf("%d lives, %d calls ended in their midst, %d cuts", lives, parts, cuts)
	}
}

// story is a row of calls, chosen by what the model has; each run of it makes the same ones till something ends it.
type story struct {
	seed  int64
	shape api.Geometry
	long  int
}

func (s story) tell(t *testing.T, faults ...api.Fault) *world {
	t.Helper()
	r := rand.New(rand.NewSource(s.seed))
	w := newWorld(t, r, s.shape, faults...)
	w.clean = false
	for i := range s.long {
		if w.lives > 0 {
			break
		}
		w.goes(w.m.someCall(r))
		if i%30 == 20 && w.lives == 0 {
			w.goes(api.Call{Op: api.CallSync})
		}
	}
	return w
}

// P4: whichever command is cut, and whatever it had done by then, also where others have failed, and in a checkpoint; and so again if the power is cut in the calls behind it.
func TestP4CutAnywhere(t *testing.T) {
	cuts := 0
	for seed := range int64(6) {
		s := story{seed, shapes()[seed%5], 100}
		r := rand.New(rand.NewSource(seed))
		var fails []api.Fault
		if seed%2 == 1 {
			fails = someFaults(r, 3, 40, api.FaultFail)
		}
		n := s.tell(t, fails...).c.Count()
		for k := 2; k < n; k++ {
			for _, f := range []api.Fault{{}, {Fill: 255}, {Mask: someBytes(r, 40), Fill: 255}, {Mask: someBytes(r, 900)}} {
				f.At, f.Kind = k, api.FaultCut
				later := api.Fault{At: k + 1 + r.Intn(30), Kind: api.FaultCut, Mask: someBytes(r, 20), Fill: 255}
				ahead := slices.DeleteFunc(slices.Clone(fails), func(f api.Fault) bool { return f.At >= k })
				w := s.tell(t, append(ahead, f, later)...)
				if w.lives != 1 {
					t.Fatalf("cut at %d: %d lives", k, w.lives)
				}
				for range 20 {
					w.goes(w.m.someCall(r))
				}
				w.shows("behind a cut")
				keepsRules(t, w.c)
				cuts++
			}
		}
	}
	if cuts < 1000 {
		t.Errorf("%d cuts", cuts)
	}
}

// F1 and P4: a Format that is cut, or in which commands fail, leaves what there was, or an empty file system, or none.
func TestP4FormatCut(t *testing.T) {
	for k := range 2 {
		for _, fill := range []byte{0, 255, 85} {
			c := newChip(t, small(), api.Fault{At: k, Kind: api.FaultCut, Fill: fill})
			if e := Format(c); e != api.ErrOff {
				t.Errorf("a Format that is cut: %d", e)
			}
			if d, e := Mount(c); d != nil || e != api.ErrOff {
				t.Errorf("Mount without power: %v, %d", d, e)
			}
			c.On()
			if d, e := Mount(c); e == api.OK {
				(&bench{Disk: d, t: t, c: c}).tree()
			} else if e != api.ErrNone || d != nil {
				t.Errorf("behind a Format that was cut at %d: %d", k, e)
			}
		}
	}
	b := begun(t, small(), api.Fault{At: 6, Kind: api.FaultCut})
	b.file("/f", "bytes")
	if e := Format(b.c); e != api.ErrOff {
		t.Fatalf("Format: %d", e)
	}
	b.again().tree("/f")
}

// P5: what was cut off, or never written, reads as 0 when the file is made longer; what was unlinked or replaced stays so; whatever is cleaned between, and wherever it is cut.
func TestP5NeverAgain(t *testing.T) {
	secret := strings.Repeat("secret", 100)
	tell := func(t *testing.T, faults ...api.Fault) *bench {
		b := begun(t, shape(11, 4, 1), faults...)
		b.Open("/f", 7, 420)
		b.Write(1, 0, []byte(secret))
		b.Truncate(1, 10)
		b.Open("/gone", 7, 420)
		b.Write(2, 0, []byte(secret))
		b.Unlink("/gone")
		b.Mkdir("/old", 493)
		b.Mkdir("/new", 493)
		b.Rename("/new", "/old")
		for i := range 40 { // round the chip more than once
			b.Touch("/f", uint64(i))
		}
		b.Close(2)
		b.Truncate(1, 600)
		for i := range 40 {
			b.Touch("/f", uint64(i))
		}
		return b
	}
	whole := tell(t)
	whole.reads(1, 0, 999, secret[:10]+zeros(590))
	whole.tree("/f", "/old")
	if got := whole.objects(); !slices.Equal(got, []int{2, 5}) {
		t.Errorf("the objects %v", got)
	}
	n := whole.c.Count()
	for k := 2; k < n; k++ {
		b := tell(t, api.Fault{At: k, Kind: api.FaultCut, Mask: []byte{15, 240}, Fill: 85}).again()
		list, e := b.Tree()
		if e != api.OK {
			t.Fatalf("cut at %d: Tree: %d", k, e)
		}
		for _, x := range list {
			cut := len(x.Data) == 10 || len(x.Data) == 600 && !strings.HasPrefix(secret, string(x.Data))
			if x.Path == "/f" && cut && string(x.Data) != (secret[:10] + zeros(590))[:len(x.Data)] {
				t.Fatalf("P5: cut at %d: %q", k, x.Data)
			}
		}
	}
}

// P9 and P11: the same again, and again with bits that have aged: the same answers, the same trace.
func TestP9AgeAndP11TheSameAgain(t *testing.T) {
	for seed := range int64(12) {
		r := rand.New(rand.NewSource(seed))
		faults := someFaults(r, 5, 40, api.FaultFail)
		g := shapes()[seed%5]
		m := newModel(g)
		list := []*bench{begun(t, g, faults...), begun(t, g, faults...), begun(t, g, faults...)}
		for i := range 200 {
			c := m.someCall(r)
			ages(r, list[2].c, 10)
			first := list[0].Call(c)
			tree, e := list[0].Tree()
			for _, b := range list[1:] {
				if got := b.Call(c); !sameReply(got, first) {
					t.Fatalf("seed %d: %v: %v, and again %v", seed, c, first, got)
				}
				if got, f := b.Tree(); !sameTree(got, tree) || f != e {
					t.Fatalf("seed %d: %v: another tree", seed, c)
				}
			}
			if x := m.do(c); first.E == x.E {
				m = x.states[len(x.grows)]
			}
			if i%50 == 49 {
				for k, b := range list {
					b.Unmount()
					list[k] = b.again()
				}
				m = m.nextLife()
			}
		}
		for _, b := range list[1:] {
			if !slices.Equal(b.c.Trace(), list[0].c.Trace()) {
				t.Fatalf("seed %d: another trace", seed)
			}
		}
	}
}

func failed(list []api.Command) int {
	n := 0
	for _, x := range list {
		if x.Status != api.OK {
			n++
		}
	}
	return n
}

// P8, for each step of a call: the commands that it gives.
func TestP8Bounds(t *testing.T) {
	for seed := range int64(20) {
		r := rand.New(rand.NewSource(seed))
		g := shapes()[seed%4]
		w := newWorld(t, r, g, someFaults(r, 6, 50, api.FaultFail)...)
		for range 150 {
			c := w.m.someCall(r)
			steps, n := len(w.m.do(c).grows), len(w.c.Trace())
			w.goes(c)
			given := w.c.Trace()[n:]
			if most := steps*((g.Pages+2)*g.Blocks+8) + 4*failed(given); len(given) > most {
				t.Fatalf("P8: %v: %d commands, at most %d may be", c, len(given), most)
			}
		}
	}
}

// P7 where commands fail, one a call at most, and none where a block waits: nothing ends in ErrBroken, and ErrSpace means that there is no room.
func TestP7RoomWhereCommandsFail(t *testing.T) {
	calls, fails, full := 0, 0, 0
	for seed := range int64(80) {
		r := rand.New(rand.NewSource(seed))
		w := newWorld(t, r, shapes()[seed%5], someFaults(r, 8, 150, api.FaultFail)...)
		for range 400 {
			waits := slices.ContainsFunc(w.state().Blocks, func(b api.Block) bool { return b.State == api.BlockWaiting })
			c := w.m.someCall(r)
			want, n := w.m.do(c), len(w.c.Trace())
			lives, spaces := w.lives, w.ends[api.ErrSpace]
			w.goes(c)
			f := failed(w.c.Trace()[n:])
			if f > 1 || f == 1 && waits {
				break
			}
			if w.lives != lives {
				t.Fatalf("P7: seed %d: %v has ended a life", seed, c)
			}
			u, _ := w.Usage()
			if w.ends[api.ErrSpace] > spaces {
				full++
				if !slices.Contains(want.grows, true) || u.Live+1 <= u.Limit {
					t.Fatalf("P7: seed %d: %v answers ErrSpace at %v", seed, c, u)
				}
			}
			if u.Live > u.Limit {
				break
			}
			calls, fails = calls+1, fails+f
		}
	}
	if calls < 3000 || fails < 60 || full < 50 {
		t.Errorf("%d calls, %d commands failed, %d calls found no room", calls, fails, full)
	}
}

func (w *world) state() api.State {
	w.t.Helper()
	s, e := w.State()
	if e != api.OK {
		w.t.Fatalf("State: %d", e)
	}
	return s
}
