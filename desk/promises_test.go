package desk

import (
	"fmt"
	"math/rand"
	"reflect"
	"slices"
	"strings"
	"sync"
	"testing"

	"shale/api"
	"shale/audit"
	"shale/chip"
	"shale/point"
	"shale/scan"
)

// world is a session and its ghost, side by side.
type world struct {
	*session
	*ghost
	r     *rand.Rand
	clean bool // no command fails, and the power is not cut
	lives int
	ends  map[string]int // how often an order has answered so
}

func newWorld(t *testing.T, r *rand.Rand, g api.Geometry, faults ...string) *world {
	return &world{session: begun(t, g, faults...), ghost: newGhost(g), r: r, clean: len(faults) == 0, ends: map[string]int{}}
}

func shapes() []api.Geometry {
	return []api.Geometry{{Blocks: 12, Pages: 4, Sectors: 1}, {Blocks: 14, Pages: 5, Sectors: 1}, {Blocks: 13, Pages: 6, Sectors: 2}, {Blocks: 30, Pages: 8, Sectors: 1}}
}

// ordered is the order that a line gives.
func (w *world) ordered(line string) api.Order {
	w.t.Helper()
	list, e, _, at := Read(line)
	if e != api.OK || len(list) != 1 {
		w.t.Fatalf("%q: %d at %d", line, e, at)
	}
	return list[0]
}

// goes tells a line, and holds the answer against the ghost's (P3); where the life ends with it, the next one begins (P4).
func (w *world) goes(line string) {
	w.t.Helper()
	o, ahead := w.ordered(line), w.ghost.copied()
	want, got := w.answer(o), w.says(line)
	words := strings.Fields(got)
	if w.ends[words[0]]++; words[0] == "error" {
		w.ends[words[1]]++
	}
	if words[0] == "usage" {
		got = "usage " + words[2] + "\n" // the rest the chip alone knows
	}
	if got == want {
		return
	}
	stopped := words[0] == "error" && slices.Contains([]string{"space", "broken", "off"}, words[1])
	if w.clean || !stopped {
		w.t.Fatalf("P3: %.80q answers %.200q, want %.200q", line, got, want)
	}
	done := 0
	if len(words) == 3 {
		done = slices.Index(w.ghost.told, numberOf(w.t, words[2]))
	}
	if done < 0 || done+1 == len(w.sights) && o.Call.Op != api.CallSync && o.Call.Op != api.CallUnmount {
		w.t.Fatalf("P3: %.80q answers %q, the steps end behind %v bytes", line, got, w.ghost.told)
	}
	if words[1] == "broken" {
		w.wants("mkdir /%01 0", "error halted")
	}
	if words[1] == "space" {
		w.ghost = ahead.after(o, done)
	} else {
		w.ghost = ahead.after(o, w.begins(done)).mounted()
	}
	w.unbound()
}

// after is the ghost behind the first so many steps of an order.
func (g *ghost) after(o api.Order, steps int) *ghost {
	x := g.copied().upTo(steps)
	x.answer(o)
	return x
}

// unbound: where commands fail, it is not known here where there is no room.
func (w *world) unbound() {
	w.clean = false
	w.ghost.allow = func(*ghost, bool) bool { return true }
}

// begins is the next life; it tells behind how many steps of the order that was under way it goes on: so many as were told, or one more (P4).
func (w *world) begins(done int) int {
	w.t.Helper()
	w.lives++
	w.says("power")
	w.wants("mount", "ok")
	got := w.says("tree") + strings.Fields(w.says("usage"))[2]
	for k := done; k < min(done+2, len(w.sights)); k++ {
		if w.sights[k] == got {
			return k
		}
	}
	w.t.Fatalf("P4: the next life shows %q, want one of %q", got, w.sights[done:])
	return 0
}

// rests ends a life by its own will, with a checkpoint or without, and the next one shows the same.
func (w *world) rests() {
	w.t.Helper()
	lives := w.lives
	if how := someOf(w.r, "unmount", "unmount", "sync", ""); how != "" {
		w.goes(how)
	}
	if w.lives > lives {
		return
	}
	w.mountsAgain()
}

// mountsAgain is the next life, whether or not this one was ended: it shows the same.
func (w *world) mountsAgain() {
	w.t.Helper()
	w.says("power")
	w.wants("mount", "ok")
	w.ghost = w.ghost.mounted()
	w.goes("tree")
	w.goes("usage")
}

// P3 and P7: without faults every order answers just what the model answers, and is refused just where there is no room.
func TestP3TheModel(t *testing.T) {
	t.Parallel()
	ends := map[string]int{}
	for seed := range int64(60) {
		r := rand.New(rand.NewSource(seed))
		g := shapes()[seed%4]
		w := newWorld(t, r, g)
		w.ends = ends
		for i := range 250 {
			w.goes(w.someOrder(r))
			if i%60 == 59 {
				w.rests()
			}
		}
		w.goes("tree")
		w.keepsRules()
		w.same()
	}
	for _, e := range strings.Fields("ok handle wrote data target list stat usage leaf error space node big range path long missing exists notdir isdir used handle mode loop into root flags type target") {
		if ends[e] < 5 {
			t.Errorf("%d orders answered %s", ends[e], e)
		}
	}
}

// someFaults picks lines of faults with gaps between them.
func someFaults(r *rand.Rand, n, gap int, kinds ...string) []string {
	var list []string
	for at := 3 + r.Intn(gap); len(list) < n; at += 1 + r.Intn(gap) {
		mask := make([]byte, r.Intn(3)*200)
		r.Read(mask)
		list = append(list, fmt.Sprintf("fault %d %s %d x%x", at, someOf(r, kinds...), someOf(r, 0, 255, 85), mask))
	}
	return list
}

// P3 where commands fail: the answers are the model's, or the order ends behind its first steps.
func TestP3Failures(t *testing.T) {
	t.Parallel()
	ends := map[string]int{}
	for seed := range int64(40) {
		r := rand.New(rand.NewSource(seed))
		w := newWorld(t, r, shapes()[seed%4], someFaults(r, 2+r.Intn(9), 25, "fail")...)
		w.ends = ends
		w.unbound()
		for i := range 200 {
			w.goes(w.someOrder(r))
			if i%80 == 79 {
				w.rests()
			}
		}
		w.goes("tree")
		w.keepsRules()
		w.same()
	}
	if ends["space"] < 20 || ends["broken"] < 3 {
		t.Errorf("%d orders answered space, %d broken", ends["space"], ends["broken"])
	}
}

// P4 and P5 over many lives: cuts again and again, failures and checkpoints between.
func TestP4ManyLives(t *testing.T) {
	t.Parallel()
	lives, cuts := 0, 0
	for seed := range int64(30) {
		r := rand.New(rand.NewSource(seed))
		w := newWorld(t, r, shapes()[seed%4], someFaults(r, 60, 20, "cut", "cut", "cut", "fail")...)
		w.unbound()
		for range 250 {
			w.goes(w.someOrder(r))
			if r.Intn(30) == 0 {
				w.rests()
			}
		}
		w.goes("tree")
		w.keepsRules()
		w.same()
		lives, cuts = lives+w.lives, cuts+w.ends["off"]
	}
	if lives < 300 || cuts < 250 {
		t.Errorf("%d lives, %d cuts", lives, cuts)
	}
}

// P4: whichever command of a text is cut, and whatever it had done by then; so also in a checkpoint.
func TestP4CutAnywhere(t *testing.T) {
	t.Parallel()
	cuts := 0
	for seed := range int64(4) {
		r := rand.New(rand.NewSource(seed))
		g := shapes()[seed]
		whole := newWorld(t, r, g)
		var lines []string
		for i := range 60 {
			line := whole.someOrder(r)
			if i%20 == 19 {
				line = "sync"
			}
			whole.goes(line)
			lines = append(lines, line)
		}
		for k := 2; k < whole.chip.Count(); k++ {
			for _, mask := range []string{"0", "255", "85", "255 x00", "0 xffffffffffffffffffff0f"} {
				w := newWorld(t, r, g, fmt.Sprintf("fault %d cut %s", k, mask))
				for i := 0; w.lives == 0; i++ {
					w.goes(lines[i])
				}
				w.goes("tree")
				w.keepsRules()
				cuts++
			}
		}
	}
	if cuts < 500 {
		t.Errorf("%d cuts", cuts)
	}
}

// P5: what was cut off, or never written, reads as 0 when the file is made longer; what was unlinked or replaced stays so; whatever is cleaned between, and wherever the power is cut.
func TestP5NeverAgain(t *testing.T) {
	t.Parallel()
	lines := []string{"open /f rwc 420", "write 1 0 p600:1", "truncate 1 10", "open /gone rwc 0", "write 2 0 p600:1", "unlink /gone", "mkdir /old 1", "mkdir /new 2", "rename /new /old"}
	touches := func() {
		for i := range 40 { // round the chip more than once
			lines = append(lines, fmt.Sprintf("touch /f %d", len(lines)+i))
		}
	}
	touches()
	lines = append(lines, "close 2", "truncate 1 600")
	touches()
	g := api.Geometry{Blocks: 11, Pages: 4, Sectors: 1}
	zeros := "0102030405060708090a" + strings.Repeat("00", 590)
	s := begun(t, g)
	for _, line := range lines {
		s.says(line)
	}
	last := numberOf(t, strings.Fields(lines[len(lines)-1])[2])
	s.wants("read 1 0 999", "data x"+zeros, "tree", fmt.Sprintf("leaf / dir 493 0\nleaf /f file 420 %d x%s\nleaf /old dir 2 0", last, zeros))
	for k := 2; k < s.chip.Count(); k++ {
		cut := begun(t, g, fmt.Sprintf("fault %d cut 85 x0ff0", k))
		for _, line := range lines {
			cut.says(line)
		}
		cut.says("power")
		cut.wants("mount", "ok")
		tree := cut.says("tree")
		_, bytes, _ := strings.Cut(strings.Split(tree+"\n", "\n")[1], " x")
		grown := strings.Contains(tree, "leaf /old dir 2") && len(bytes) == 1200
		if grown && bytes != zeros || len(bytes) == 20 && bytes != zeros[:20] || strings.Contains(tree, "leaf /old dir 2") && (strings.Contains(tree, "/gone") || strings.Contains(tree, "/new")) {
			t.Fatalf("P5: cut at %d: %s", k, tree)
		}
	}
}

// P6: behind an unmount or a sync a checkpoint, if there is one, tells what a scan of all pages tells.
func TestP6Checkpoints(t *testing.T) {
	t.Parallel()
	saved := 0
	for seed := range int64(40) {
		r := rand.New(rand.NewSource(seed))
		w := newWorld(t, r, shapes()[seed%4], someFaults(r, int(seed%3), 60, "fail", "cut")...)
		w.unbound()
		for i := range 120 {
			w.goes(w.someOrder(r))
			if i%40 != 39 {
				continue
			}
			lives := w.lives
			if w.goes(someOf(r, "sync", "unmount")); w.lives > lives {
				continue
			}
			c, e := chip.Load(w.dumped(), nil)
			if e != api.OK {
				t.Fatal(e)
			}
			byPoint, found, e := point.Restore(c)
			byScan, f := scan.Mount(c)
			if e != api.OK || f != api.OK || found && !reflect.DeepEqual(byPoint, byScan) {
				t.Fatalf("P6: %v, %d, and %v, %d", byPoint, e, byScan, f)
			}
			if got := strings.Contains(w.says("audit"), "saved yes\n"); got != found {
				t.Fatalf("P6: a checkpoint: %v, the audit tells %v", found, got)
			} else if found {
				saved++
			}
			w.mountsAgain()
		}
		w.same()
	}
	if saved < 40 {
		t.Errorf("%d checkpoints", saved)
	}
}

// P7: a step that needs a page more is refused just where the limit is reached, through the whole chip and back.
func TestP7Room(t *testing.T) {
	t.Parallel()
	for _, g := range shapes() {
		s := begun(t, g)
		limit := (g.Blocks - api.Reserve) * (g.Pages - 1)
		for round := range 3 {
			for n := range limit {
				s.wants(fmt.Sprintf("mkdir /%d 0", n), "ok", "usage", fmt.Sprintf("usage %d %d %d", g.Blocks, n+1, limit))
			}
			s.wants("mkdir /x 0", "error space", "open /x wc 0", "error space", "link /x a", "error space", "chmod /0 1", "ok", "rename /0 /y", "ok", "rename /y /0", "ok", fmt.Sprintf("touch /0 %d", round+1), "ok")
			for n := range limit {
				s.wants(fmt.Sprintf("rmdir /%d", n), "ok")
			}
			s.wants("open /f wc 0", "handle 1", fmt.Sprintf("write 1 0 p%d:0", limit*256*g.Sectors), fmt.Sprintf("error space %d", (limit-1)*256*g.Sectors), "truncate 1 1", "ok", "unlink /f", "ok", "close 1", "ok")
		}
		s.keepsRules()
		s.same()
	}
}

// P7 and P8 where commands fail: no step ends in ErrBroken where there is room, and none gives more commands than it may.
func TestP8Bounds(t *testing.T) {
	t.Parallel()
	failed := 0
	for seed := range int64(12) {
		r := rand.New(rand.NewSource(seed))
		g := shapes()[seed%4]
		s := begun(t, g, someFaults(r, 4, 300, "fail")...)
		s.wants("mkdir /d 0", "ok")
		most := (g.Pages+2)*g.Blocks + 8
		for i := range 400 {
			n := len(s.chip.Trace())
			s.wants(fmt.Sprintf("touch /d %d", i+1), "ok")
			given := commandsOf(t, s.says(fmt.Sprintf("trace %d", len(s.chip.Trace())-n)))
			fails := 0
			for _, c := range given {
				if c.Status != api.OK {
					fails++
				}
			}
			if failed += fails; len(given) == 0 || len(given) > most+4*fails {
				t.Fatalf("P8: a step gives %d commands, at most %d may be", len(given), most+4*fails)
			}
		}
		s.keepsRules()
	}
	if failed < 20 {
		t.Errorf("%d commands failed", failed)
	}
}

// aged tells lines with flips among them.
func aged(r *rand.Rand, lines []string, g api.Geometry) []string {
	var list []string
	for i, line := range lines {
		list = append(list, line)
		for range 4 {
			if i > 8 {
				list = append(list, fmt.Sprintf("flip %d %d %d", r.Intn(g.Blocks), r.Intn(g.Pages), r.Intn(8*(54+259*g.Sectors))))
			}
		}
	}
	return list
}

// P9 and P11: the same text again, also side by side, gives the same report; with bits that have aged all other answers are the same, the trace too.
func TestP9AgeAndP11TheSameAgain(t *testing.T) {
	t.Parallel()
	flips := 0
	for seed := range int64(12) {
		r := rand.New(rand.NewSource(seed))
		g := shapes()[seed%4]
		w := newWorld(t, r, g, someFaults(r, 5, 50, "fail", "cut")...)
		w.unbound()
		for i := range 150 {
			w.goes(w.someOrder(r))
			if i%50 == 49 {
				w.rests()
			}
		}
		w.says("store /")
		w.says("trace 9999")
		text := w.said.String()
		want := w.kept.String()
		var group sync.WaitGroup
		for range 4 {
			group.Go(func() {
				if Run(text) != want {
					t.Error("P11: another report")
				}
			})
		}
		group.Wait()
		old := newSession(t)
		answers := ""
		for _, line := range aged(r, strings.Split(strings.TrimSuffix(text, "\n"), "\n"), g) {
			answer := old.says(line)
			if !strings.HasPrefix(line, "flip") {
				answers += answer
			} else if answer == "ok\n" {
				flips++
			}
		}
		if answers != want {
			t.Fatalf("P9: seed %d: flips change what is answered", seed)
		}
	}
	if flips < 500 {
		t.Errorf("%d bits were flipped", flips)
	}
}

// P10: what is told by dump, store, tree and audit is read as what it was told of.
func TestP10ThereAndBack(t *testing.T) {
	t.Parallel()
	for seed := range int64(20) {
		r := rand.New(rand.NewSource(seed))
		g := api.Geometry{Blocks: 40, Pages: 8, Sectors: 1}
		w := newWorld(t, r, g)
		for range 60 {
			w.goes(w.someOrder(r))
		}
		tree := w.says("tree")
		report := w.says("audit")
		if back, e, line := audit.Read(report); e != api.OK || line != 0 || audit.Show(back) != report || !audit.Sound(back) {
			t.Fatalf("P10: the audit %q: %d at %d", report, e, line)
		}
		row := strings.TrimPrefix(strings.TrimSpace(w.says("store /")), "data ")
		dump := strings.TrimPrefix(strings.TrimSpace(w.says("dump")), "dump ")
		s := begun(t, g)
		s.wants("take / "+row, fmt.Sprintf("took %d", strings.Count(tree, "\n")-1), "tree", strings.TrimSuffix(tree, "\n"), "store /", "data "+row)
		s = newSession(t)
		s.wants("load "+dump, "ok", "dump", "dump "+dump, "mount", "ok", "tree", strings.TrimSuffix(tree, "\n"), "store /", "data "+row)
		if s.says("audit") != report {
			t.Fatal("P10: another audit of the same image")
		}
	}
}

// someText picks a whole text: orders of all kinds, most of them right, with faults, cuts and mounts between.
func someText(t *testing.T, r *rand.Rand) string {
	g := someOf(r, shapes()...)
	w := newWorld(t, r, g, someFaults(r, r.Intn(6), 30, "fail", "cut")...)
	w.unbound()
	for range 40 {
		w.goes(w.someOrder(r))
	}
	lines := strings.SplitAfter(w.said.String(), "\n")
	for range 12 {
		more := someOf(r, "power\nmount\n", "unmount\nmount\n", "audit\n", "trace 3\n", "sync\n", "dump\n", "store /\n", "take / x\n", "flip 1 1 1\n", " # remark\r\n", "\t\n", "fault 9 cut 3\n", "format\n", "load x00\n", "chip 9 4 1\nformat\nmount\n", "tree\n", "usage \t\n")
		lines = slices.Insert(lines, r.Intn(len(lines)), more)
	}
	if r.Intn(3) == 0 {
		lines = slices.Insert(lines, r.Intn(len(lines)), someLine(r)+"\n")
	}
	return strings.Join(lines, "")
}

// front tells a report without a last line that tells where Read failed.
func front(report string) string {
	lines := strings.SplitAfter(report, "\n")
	if n := len(lines) - 2; n >= 0 && strings.HasPrefix(lines[n], "line ") {
		return strings.Join(lines[:n], "")
	}
	return report
}

// K6: the report of what Show writes of a text's orders is that of the text.
func TestK6ThereAndBack(t *testing.T) {
	t.Parallel()
	for seed := range int64(150) {
		r := rand.New(rand.NewSource(seed))
		text := someText(t, r)
		list, e, line, _ := Read(text)
		if e != api.OK { // the orders ahead of that line are done
			lines := strings.SplitAfter(text, "\n")
			list, e, _, _ = Read(strings.Join(lines[:line-1], ""))
		}
		shown, f := Show(list)
		if e != api.OK || f != api.OK {
			t.Fatalf("K6: %d, %d", e, f)
		}
		if got, want := Run(shown), Run(text); got != front(want) {
			t.Fatalf("K6: %q, want %q", got, want)
		}
	}
}

// K5 and K7: each line of a report ends with a byte 10; the report of a text that is cut behind one of its lines is the beginning of the text's.
func TestK7Fronts(t *testing.T) {
	t.Parallel()
	for seed := range int64(30) {
		r := rand.New(rand.NewSource(seed))
		text := someText(t, r)
		whole := Run(text)
		if whole != "" && !strings.HasSuffix(whole, "\n") || strings.Contains(whole, "\n\n") {
			t.Fatal("K5: a line without its end")
		}
		lines := strings.SplitAfter(text, "\n")
		for n := range lines {
			cut := strings.Join(lines[:n], "")
			for _, x := range []string{cut, strings.TrimSuffix(cut, "\n")} {
				if got := front(Run(x)); !strings.HasPrefix(whole, got) {
					t.Fatalf("K7: %d lines: %q, the whole is %q", n, got, whole)
				}
			}
		}
	}
}

// K8: behind unmount, power, mount the tree tells what it told ahead, as long as no fault cuts the power and no order has answered error broken.
func TestK8TreesStay(t *testing.T) {
	t.Parallel()
	seen := 0
	for seed := range int64(60) {
		r := rand.New(rand.NewSource(seed))
		w := newWorld(t, r, shapes()[seed%4], someFaults(r, int(seed%5)*3, 40, "fail")...)
		w.unbound()
		broken := false
		for i := range 200 {
			line := w.someOrder(r)
			broken = broken || strings.HasPrefix(w.says(line), "error broken")
			if i%25 != 24 {
				w.answer(w.ordered(line))
				continue
			}
			ahead := w.says("tree")
			broken = broken || strings.HasPrefix(w.says("unmount"), "error broken")
			w.says("power")
			w.wants("mount", "ok")
			if got := w.says("tree"); got != ahead && !broken {
				t.Fatalf("K8: %q, it was %q", got, ahead)
			} else if !broken {
				seen++
			}
			broken = false
			w.ghost = newGhost(w.chip.Geometry())
			w.unbound()
		}
		w.same()
	}
	if seen < 300 {
		t.Errorf("%d trees were looked at", seen)
	}
}

// R1: whatever a text says, Run ends and does not panic.
func TestR1AnyText(t *testing.T) {
	t.Parallel()
	for seed := range int64(300) {
		r := rand.New(rand.NewSource(seed))
		text := []byte(someText(t, r))
		for range r.Intn(20) {
			text[r.Intn(len(text))] = someOf(r, byte(r.Intn(256)), '0', '1', '9', ' ', '\n', '/', '-')
		}
		report := Run(string(text))
		if _, e, line, at := Read(string(text)); e != api.OK && !strings.HasSuffix(report, fmt.Sprintf("line %d %d %s\n", line, at, nameOf(e))) {
			t.Fatalf("K3: the report ends with %.80q", report[max(0, len(report)-80):])
		}
	}
}
