package files

import (
	"math/rand"
	"slices"
	"strings"
	"testing"

	"shale/api"
	"shale/chip"
	"shale/judge"
	"shale/leaf"
)

func shape(blocks, pages, sectors int) api.Geometry {
	return api.Geometry{Blocks: blocks, Pages: pages, Sectors: sectors}
}

func small() api.Geometry { return shape(12, 4, 1) }

// roomy has blocks enough for trees of some size.
func roomy() api.Geometry { return shape(60, 8, 1) }

// bench is a disk on a chip, and how much of the chip's trace was looked at.
type bench struct {
	*Disk
	t    *testing.T
	c    *chip.Chip
	seen int
}

func newChip(t *testing.T, g api.Geometry, faults ...api.Fault) *chip.Chip {
	t.Helper()
	c, e := chip.New(g, nil, faults)
	if e != api.OK {
		t.Fatalf("chip.New: %d", e)
	}
	return c
}

func mounted(t *testing.T, c *chip.Chip) *bench {
	t.Helper()
	n := len(c.Trace())
	d, e := Mount(c)
	if e != api.OK || d == nil {
		t.Fatalf("F1: Mount: %d", e)
	}
	if len(c.Trace()) != n {
		t.Fatal("F1: Mount gives writing commands")
	}
	return &bench{Disk: d, t: t, c: c, seen: n}
}

// begun is an empty disk: the commands 0 and 1 were Format's.
func begun(t *testing.T, g api.Geometry, faults ...api.Fault) *bench {
	t.Helper()
	c := newChip(t, g, faults...)
	if e := Format(c); e != api.OK {
		t.Fatalf("F1: Format: %d", e)
	}
	return mounted(t, c)
}

// again is the next life of a chip.
func (b *bench) again() *bench {
	b.t.Helper()
	b.c.On()
	return mounted(b.t, b.c)
}

func (b *bench) is(what string, got, want api.Errno) {
	b.t.Helper()
	if got != want {
		b.t.Errorf("%s: %d, want %d", what, got, want)
	}
}

// dirs makes directories.
func (b *bench) dirs(list ...string) {
	b.t.Helper()
	for _, p := range list {
		if e := b.Mkdir(p, 493); e != api.OK {
			b.t.Fatalf("Mkdir(%.40q): %d", p, e)
		}
	}
}

// file makes a file with these bytes; no handle stays open.
func (b *bench) file(path, data string) {
	b.t.Helper()
	h, e := b.Open(path, api.OpenWrite|api.OpenCreate|api.OpenNew, 420)
	if e != api.OK {
		b.t.Fatalf("Open(%.40q): %d", path, e)
	}
	b.writes(h, 0, data)
	b.is("Close", b.Close(h), api.OK)
}

func (b *bench) link(path, target string) {
	b.t.Helper()
	if e := b.Link(path, target); e != api.OK {
		b.t.Fatalf("Link(%.40q, %.40q): %d", path, target, e)
	}
}

// opens fails unless Open answers this handle.
func (b *bench) opens(path string, flags, want int) {
	b.t.Helper()
	if h, e := b.Open(path, flags, 420); h != want || e != api.OK {
		b.t.Fatalf("Open(%.40q, %d): %d, %d, want %d", path, flags, h, e, want)
	}
}

// shut fails unless Open refuses.
func (b *bench) shut(path string, flags, mode int, want api.Errno) {
	b.t.Helper()
	if h, e := b.Open(path, flags, mode); h != 0 || e != want {
		b.t.Errorf("Open(%.40q, %d, %d): %d, %d, want %d", path, flags, mode, h, e, want)
	}
}

func (b *bench) writes(h, at int, data string) {
	b.t.Helper()
	if n, e := b.Write(h, at, []byte(data)); n != len(data) || e != api.OK {
		b.t.Fatalf("Write(%d, %d, %d bytes): %d, %d", h, at, len(data), n, e)
	}
}

func (b *bench) reads(h, at, n int, want string) {
	b.t.Helper()
	if got, e := b.Read(h, at, n); string(got) != want || e != api.OK {
		b.t.Fatalf("Read(%d, %d, %d): %q, %d, want %q", h, at, n, got, e, want)
	}
}

// stats fails unless Stat tells this.
func (b *bench) stats(path string, want api.Stat) {
	b.t.Helper()
	if s, e := b.Stat(path); s != want || e != api.OK {
		b.t.Errorf("Stat(%.40q): %v, %d, want %v", path, s, e, want)
	}
}

func (b *bench) missing(list ...string) {
	b.t.Helper()
	for _, p := range list {
		if s, e := b.Stat(p); s != (api.Stat{}) || e != api.ErrMissing {
			b.t.Errorf("Stat(%.40q): %v, %d, want it missing", p, s, e)
		}
	}
}

// tree fails unless the tree has just these paths, in their order, behind the root's.
func (b *bench) tree(want ...string) {
	b.t.Helper()
	list, e := b.Tree()
	got := make([]string, 0, len(list))
	for _, x := range list {
		got = append(got, x.Path)
	}
	if e != api.OK || !slices.Equal(got, append([]string{"/"}, want...)) {
		b.t.Errorf("F9: Tree: %.60q, %d, want %.60q", got, e, want)
	}
}

// objects tells the numbers of all objects, unlinked ones too.
func (b *bench) objects() []int {
	b.t.Helper()
	s, e := b.State()
	if e != api.OK {
		b.t.Fatalf("State: %d", e)
	}
	var list []int
	for _, x := range s.Objects {
		list = append(list, x.Id)
	}
	return list
}

// steps tells the kinds of the records that were written since it was asked last, without heads, copies and checkpoints.
func (b *bench) steps() []int {
	b.t.Helper()
	var list []int
	trace := b.c.Trace()
	for _, x := range trace[b.seen:] {
		if x.Kind != api.CmdProgram || x.Status != api.OK || x.Page == 0 {
			continue
		}
		page, e := b.c.Read(api.Place{Block: x.Block, Page: x.Page})
		look, f := leaf.Open(b.c.Geometry(), page)
		if e != api.OK || f != api.OK || look.State != api.LookWhole {
			b.t.Fatalf("the page of %v: %d, %d, %v", x, e, f, look.State)
		}
		if look.Tags.Flags&api.FlagCopy == 0 && look.Tags.Kind != api.KindSave {
			list = append(list, look.Tags.Kind)
		}
	}
	b.seen = len(trace)
	return list
}

// gives fails unless just so many steps were made since it was asked last.
func (b *bench) gives(what string, want int) {
	b.t.Helper()
	if got := b.steps(); len(got) != want {
		b.t.Errorf("%s: the steps %v, want %d of them", what, got, want)
	}
}

// silent fails if a writing command was given since the trace was looked at last (P17.5).
func (b *bench) silent(what string) {
	b.t.Helper()
	if n := len(b.c.Trace()); n != b.seen {
		b.t.Errorf("P17.5: %s: %d writing commands", what, n-b.seen)
		b.seen = n
	}
}

func zeros(n int) string { return strings.Repeat("\x00", n) }

func letters(n int) string { return strings.Repeat("x", n) }

func someBytes(r *rand.Rand, n int) []byte {
	b := make([]byte, n)
	r.Read(b)
	return b
}

func someOf[T any](r *rand.Rand, list ...T) T { return list[r.Intn(len(list))] }

// keepsRules fails unless all commands keep the chip's rules; what a Mark has done that failed or was cut, no judge can tell.
func keepsRules(t *testing.T, c *chip.Chip) {
	t.Helper()
	for _, x := range c.Trace() {
		if x.Kind == api.CmdMark && x.Status != api.OK {
			return
		}
	}
	if n, e := judge.Check(c.Geometry(), make([]bool, c.Geometry().Blocks), true, c.Trace()); n != -1 || e != api.OK {
		t.Fatalf("P2: the command %d breaks the rules", n)
	}
}

// ages flips some bits, as the rules allow it.
func ages(r *rand.Rand, c *chip.Chip, n int) {
	g := c.Geometry()
	for range n {
		c.Flip(api.Place{Block: r.Intn(g.Blocks), Page: r.Intn(g.Pages)}, r.Intn(8*(259*g.Sectors+54)))
	}
}
