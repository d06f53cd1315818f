package parcel

import (
	"bytes"
	"math/rand"
	"reflect"
	"slices"
	"strings"
	"testing"

	"shale/api"
	"shale/chip"
	"shale/files"
	"shale/judge"
	"shale/path"
	"shale/words"
)

// bench is a disk on a chip.
type bench struct {
	*files.Disk
	t *testing.T
	c *chip.Chip
}

func shape(blocks, pages, sectors int) api.Geometry {
	return api.Geometry{Blocks: blocks, Pages: pages, Sectors: sectors}
}

func roomy() api.Geometry { return shape(60, 8, 1) }

func begun(t *testing.T, g api.Geometry, faults ...api.Fault) *bench {
	t.Helper()
	c, e := chip.New(g, nil, faults)
	if e != api.OK {
		t.Fatal(e)
	}
	if e := files.Format(c); e != api.OK {
		t.Fatalf("Format: %d", e)
	}
	return mounted(t, c)
}

func mounted(t *testing.T, c *chip.Chip) *bench {
	t.Helper()
	d, e := files.Mount(c)
	if e != api.OK {
		t.Fatalf("Mount: %d", e)
	}
	return &bench{Disk: d, t: t, c: c}
}

// dirs makes directories.
func (b *bench) dirs(list ...string) {
	b.t.Helper()
	for _, p := range list {
		if e := b.Mkdir(p, 493); e != api.OK {
			b.t.Fatalf("Mkdir(%q): %d", p, e)
		}
	}
}

// file makes one of some bytes and a length.
func (b *bench) file(p, data string, size int) {
	b.t.Helper()
	h, e := b.Open(p, api.OpenWrite|api.OpenCreate, 420)
	if e != api.OK {
		b.t.Fatalf("Open(%q): %d", p, e)
	}
	if _, e := b.Write(h, 0, []byte(data)); e != api.OK {
		b.t.Fatalf("Write: %d", e)
	}
	if e := b.Truncate(h, size); e != api.OK {
		b.t.Fatalf("Truncate: %d", e)
	}
	b.Close(h)
}

func (b *bench) link(p, target string) {
	b.t.Helper()
	if e := b.Link(p, target); e != api.OK {
		b.t.Fatalf("Link(%q): %d", p, e)
	}
}

func (b *bench) tree() []api.Leaf {
	b.t.Helper()
	tree, e := b.Tree()
	if e != api.OK {
		b.t.Fatalf("Tree: %d", e)
	}
	return tree
}

// stores fails unless Store answers this, and gives the chip no command.
func (b *bench) stores(p string, e api.Errno, want ...api.Leaf) {
	b.t.Helper()
	n := len(b.c.Trace())
	row, got := Store(b.Disk, p)
	if got != e || e != api.OK && row != nil {
		b.t.Errorf("Store(%.40q): %d, want %d", p, got, e)
		return
	}
	if len(b.c.Trace()) != n {
		b.t.Errorf("Store(%.40q) gives commands", p)
	}
	if e != api.OK {
		return
	}
	if tree, e := Read(row); e != api.OK || !sameTree(tree, want) {
		b.t.Errorf("Store(%.40q): %v, %d, want %v", p, tree, e, want)
	}
}

// takes fails unless Take answers this.
func (b *bench) takes(p string, row []byte, n int, e api.Errno) {
	b.t.Helper()
	if k, got := Take(b.Disk, p, row); k != n || got != e {
		b.t.Errorf("Take(%.40q): %d, %d, want %d, %d", p, k, got, n, e)
	}
}

// noneOpen fails if a handle is open.
func (b *bench) noneOpen() {
	b.t.Helper()
	for h := range api.MaxHandles {
		if e := b.Close(h + 1); e != api.ErrHandle {
			b.t.Errorf("the handle %d is open: %d", h+1, e)
		}
	}
}

// keepsRules fails unless the chip's rules were kept (P2).
func (b *bench) keepsRules() {
	b.t.Helper()
	for _, x := range b.c.Trace() {
		if x.Kind == api.CmdMark && x.Status != api.OK {
			return // what it has done, no judge can tell
		}
	}
	if n, e := judge.Check(b.c.Geometry(), make([]bool, b.c.Geometry().Blocks), true, b.c.Trace()); n != -1 || e != api.OK {
		b.t.Errorf("P2: the command %d breaks the rules", n)
	}
}

// DOC.md's ninth example.
func TestExampleOfTheWhole(t *testing.T) {
	b := begun(t, shape(12, 4, 1))
	b.dirs("/d")
	b.file("/d/a", "hi", 2)
	row, e := Store(b.Disk, "/d")
	const want = "5052434c01ed0100000000000000000001a401000000000000000001610200000001020000006869ff2e4a59c7"
	if words.Hex(row) != want || e != api.OK {
		t.Errorf("Store: %s, %d", words.Hex(row), e)
	}
	if e := b.Mkdir("/e", 0); e != api.OK {
		t.Fatal(e)
	}
	b.takes("/e", row, 1, api.OK)
	b.takes("/e", nil, 0, api.ErrParcel)
	root := dir("/")
	bare := dir("/e")
	bare.Mode = 0
	if tree := b.tree(); !sameTree(tree, []api.Leaf{root, dir("/d"), file("/d/a", 'h', 'i'), bare, file("/e/a", 'h', 'i')}) {
		t.Errorf("Tree: %v", tree)
	}
}

func TestStore(t *testing.T) {
	b := begun(t, roomy())
	b.dirs("/d", "/d/e", "/d/e/f", "/dd", "/d!")
	b.file("/a", "top", 3)
	b.file("/d/x", "xyz", 300)
	b.file("/d/e/y", "", 0)
	b.file("/dd/z", "z", 1)
	b.link("/l", "d")
	b.link("/d/e/k", "/a")
	if e := b.Touch("/d", 77); e != api.OK {
		t.Fatal(e)
	}
	if e := b.Chmod("/d/x", 1); e != api.OK {
		t.Fatal(e)
	}
	h, _ := b.Open("/d/gone", api.OpenWrite|api.OpenCreate, 0)
	b.Write(h, 0, []byte("gone"))
	b.Unlink("/d/gone")
	x := file("/x", append([]byte("xyz"), make([]byte, 297)...)...)
	x.Mode = 1
	k := link("/e/k", "/a")
	k.Mode = 511
	top := dir("/")
	top.Stamp = 77
	want := []api.Leaf{top, dir("/e"), dir("/e/f"), k, file("/e/y"), x}
	for _, p := range []string{"/d", "/d/", "//d/.", "/../d", "/../.././d/"} {
		b.stores(p, api.OK, want...)
	}
	k.Path = "/k"
	b.stores("/d/e", api.OK, dir("/"), dir("/f"), k, file("/y"))
	b.stores("/d/e/f", api.OK, dir("/"))
	b.stores("/dd", api.OK, dir("/"), file("/z", 'z'))
	b.stores("/d!", api.OK, dir("/"))
	b.stores("/", api.OK, b.tree()...)
	b.stores("/..", api.OK, b.tree()...)
	long := "/" + strings.Repeat("n", 64)
	for p, e := range map[string]api.Errno{
		"": api.ErrPath, "d": api.ErrPath, "/d\x00": api.ErrPath, long: api.ErrLong, strings.Repeat("/d", 65): api.ErrLong, "/" + strings.Repeat("/", 1023): api.ErrLong,
		"/d/..": api.ErrPath, "/x/..": api.ErrPath, "/d/../d": api.ErrPath, "/d/e/../..": api.ErrPath,
		"/y": api.ErrMissing, "/d/y": api.ErrMissing, "/a/b": api.ErrMissing, "/D": api.ErrMissing, "/d/gone": api.ErrMissing, "/l/e": api.ErrMissing,
		"/a": api.ErrNotDir, "/d/x": api.ErrNotDir, "/l": api.ErrNotDir, "/d/e/k": api.ErrNotDir,
	} {
		b.stores(p, e)
	}
	b.Unmount()
	for p, e := range map[string]api.Errno{"": api.ErrPath, long: api.ErrLong, "/d/..": api.ErrPath, "/d": api.ErrClosed, "/y": api.ErrClosed, "/a": api.ErrClosed} {
		b.stores(p, e) // R2: the path is looked at first
	}
}

// Store: a file of more than 2^24 bytes, where it lies below the directory.
func TestStoreBig(t *testing.T) {
	b := begun(t, roomy())
	b.dirs("/d", "/e", "/e/f")
	b.file("/d/x", "x", 1<<24)
	b.file("/e/f/y", "y", 1<<24+1)
	if row, e := Store(b.Disk, "/d"); e != api.OK || len(row) != 20+22+1+1+5 {
		t.Errorf("Store of 2^24 bytes: %d bytes, %d", len(row), e)
	}
	for _, p := range []string{"/", "/e", "/e/f"} {
		b.stores(p, api.ErrPiece)
	}
	b.stores("/x", api.ErrMissing)
	b.stores("/e/f/y", api.ErrNotDir)
}

// Store, R8: what must be read cannot be, when the power is off.
func TestStoreOff(t *testing.T) {
	b := begun(t, roomy(), api.Fault{At: 7, Kind: api.FaultCut})
	b.file("/a", "a", 1)
	b.dirs("/d")
	if e := b.Mkdir("/e", 0); e != api.ErrOff {
		t.Fatalf("Mkdir: %d", e)
	}
	b.stores("/d", api.ErrOff)
	b.stores("/nothing", api.ErrOff)
	b.stores("/a/..", api.ErrPath)
	if n, e := Take(b.Disk, "/d", packed(t, example())); n != 0 || e != api.ErrOff && e != api.ErrHalted {
		t.Errorf("Take: %d, %d", n, e)
	}
}

func TestTakeErrors(t *testing.T) {
	row := packed(t, example())
	alone := packed(t, []api.Leaf{dir("/")})
	turned := slices.Clone(row)
	turned[len(turned)-1] ^= 1
	b := begun(t, roomy())
	b.dirs("/d", "/e")
	b.file("/f", "", 0)
	b.link("/l", "d")
	b.link("/m", "/m")
	was := b.tree()
	n := len(b.c.Trace())
	for _, x := range []struct {
		p   string
		row []byte
		e   api.Errno
	}{
		{"", nil, api.ErrParcel}, {"/d", row[:len(row)-1], api.ErrParcel}, {"/d", append(slices.Clone(row), 0), api.ErrParcel}, {"/a/..", turned, api.ErrSum}, {"/d", turned, api.ErrSum}, {"/d", []byte("PRCL\x01\xff\xff"), api.ErrPiece},
		{"", row, api.ErrPath}, {"d", row, api.ErrPath}, {"/d\x00", row, api.ErrPath}, {"/d/..", row, api.ErrPath}, {"/d/../e", row, api.ErrPath}, {"/" + strings.Repeat("n", 64), row, api.ErrLong},
		{"", alone, api.ErrPath}, {"/d/..", alone, api.ErrPath}, {"/nothing", alone, api.OK}, {"/f", alone, api.OK}, {"/", alone, api.OK},
		{"/nothing", row, api.ErrMissing}, {"/f", row, api.ErrNotDir}, {"/m", row, api.ErrLoop},
	} {
		b.takes(x.p, x.row, 0, x.e)
	}
	if !sameTree(b.tree(), was) || len(b.c.Trace()) != n {
		t.Error("R5: a Take that is refused has changed something")
	}
	b.takes("/../d/", row, 3, api.OK)
	b.takes("/l", row, 0, api.ErrExists) // through the link
	b.takes("//e/.", row, 3, api.OK)
	b.noneOpen()
	b.Unmount()
	b.takes("/d", row, 0, api.ErrClosed)
	b.takes("/d/..", row, 0, api.ErrPath)
	b.takes("/d", alone, 0, api.OK) // there is nothing to be laid out
	b.keepsRules()
}

// Take through a link lays out where it leads.
func TestTakeThroughLink(t *testing.T) {
	b := begun(t, roomy())
	b.dirs("/d", "/d/e")
	b.link("/l", "d/e")
	b.takes("/l", packed(t, example()), 3, api.OK)
	if s, e := b.Look("/d/e/d/l"); e != api.OK || s.Type != api.TypeLink {
		t.Errorf("Look: %v, %d", s, e)
	}
}

// Take ends with the first leaf that cannot be laid out; those ahead of it stay.
func TestTakeStops(t *testing.T) {
	tree := []api.Leaf{dir("/"), dir("/a"), file("/a/f", 'f'), link("/a/l", "f"), dir("/b"), file("/c", 'c')}
	row := packed(t, tree)
	for n, there := range []string{"/a", "/a/f", "/a/l", "/b", "/c"} {
		for _, kind := range []string{"dir", "file", "link"} {
			if n == 1 || n == 2 {
				continue // its directory is the tree's own
			}
			b := begun(t, roomy())
			switch kind {
			case "dir":
				b.dirs(there)
			case "file":
				b.file(there, "old", 3)
			case "link":
				b.link(there, "nowhere")
			}
			b.takes("/", row, n, api.ErrExists)
			if l := len(b.tree()); l != n+2 {
				t.Errorf("%s is there: %d leaves", there, l)
			}
			b.noneOpen()
		}
	}
}

// Take, path.Join's error: the leaf's place is too long, or too deep.
func TestTakeLong(t *testing.T) {
	b := begun(t, roomy())
	at := ""
	for range 62 {
		at += "/d"
		b.dirs(at)
	}
	b.takes(at, packed(t, []api.Leaf{dir("/"), dir("/a"), dir("/a/b"), dir("/a/b/c"), dir("/z")}), 2, api.ErrLong)
	b.takes(at, packed(t, []api.Leaf{dir("/"), dir("/x"), dir("/x/b"), dir("/z")}), 3, api.OK)

	b = begun(t, roomy())
	name := "/" + strings.Repeat("n", 63)
	at = ""
	for range 15 {
		at += name
		b.dirs(at)
	}
	n := len(b.c.Trace())
	b.takes(at, packed(t, []api.Leaf{dir("/"), dir(name[:64])}), 0, api.ErrLong)
	if len(b.c.Trace()) != n {
		t.Error("R5: commands were given")
	}
	b.takes(at, packed(t, []api.Leaf{dir("/"), dir(name[:63])}), 1, api.OK)
}

// Take needs a handle for a file alone.
func TestTakeMany(t *testing.T) {
	b := begun(t, roomy())
	b.file("/f", "f", 1)
	for range api.MaxHandles {
		if _, e := b.Open("/f", api.OpenRead, 0); e != api.OK {
			t.Fatal(e)
		}
	}
	row := packed(t, []api.Leaf{dir("/"), dir("/a"), link("/b", "x"), file("/c"), dir("/d")})
	b.takes("/", row, 2, api.ErrMany)
	b.Close(9)
	b.Rmdir("/a")
	b.Unlink("/b")
	b.takes("/", row, 4, api.OK)
	if h, e := b.Open("/f", api.OpenRead, 0); h != 9 || e != api.OK {
		t.Errorf("the handle is open still: %d, %d", h, e)
	}
}

// Take, no room: of a file in the midst of which it ends the first bytes are there, and its handle is closed.
func TestTakeSpace(t *testing.T) {
	b := begun(t, shape(12, 4, 1)) // 15 pages
	row := packed(t, []api.Leaf{dir("/"), dir("/a"), file("/b", rep(1, 256*20)...), dir("/c")})
	b.takes("/", row, 1, api.ErrSpace)
	b.noneOpen()
	if s, e := b.Stat("/b"); e != api.OK || s.Size != 256*13 {
		t.Errorf("Stat: %v, %d", s, e)
	}
	row = packed(t, []api.Leaf{dir("/"), dir("/x")})
	b.takes("/", row, 0, api.ErrSpace)
	b.Unlink("/b")
	stamped := dir("/x")
	stamped.Stamp = 9
	b.takes("/", packed(t, []api.Leaf{dir("/"), stamped}), 1, api.OK)
	b.keepsRules()
}

// Take: holes are not written, so they take no pages.
func TestTakeHoles(t *testing.T) {
	for what, x := range map[string]struct {
		data []byte
		live int
		cmds int // programs of the file's pages
	}{
		"nothing":                      {nil, 1, 1},
		"a hole":                       {make([]byte, 1<<24), 1, 2},
		"a byte behind one":            {append(make([]byte, 1<<20), 1), 2, 2},
		"a byte ahead of one":          {append([]byte{1}, make([]byte, 1<<20)...), 2, 3},
		"a byte within":                {slices.Concat(make([]byte, 5000), []byte{1}, make([]byte, 5000)), 2, 3},
		"two in one chunk":             {slices.Concat([]byte{1}, make([]byte, 16), []byte{1}), 2, 3},
		"zeros that are no hole, last": {slices.Concat([]byte{1}, make([]byte, 15)), 2, 2},
	} {
		b := begun(t, roomy())
		b.takes("/", packed(t, []api.Leaf{dir("/"), file("/f", x.data...)}), 1, api.OK)
		u, _ := b.Usage()
		programs := 0
		for _, c := range b.c.Trace() {
			if c.Kind == api.CmdProgram && c.Page > 0 {
				programs++
			}
		}
		if u.Live != x.live || programs != x.cmds {
			t.Errorf("%s: %d pages are current, %d were written, want %d, %d", what, u.Live, programs, x.live, x.cmds)
		}
		if tree := b.tree(); !bytes.Equal(tree[1].Data, x.data) {
			t.Errorf("%s: the data is another", what)
		}
	}
	// R1: many long holes in a short row.
	b := begun(t, roomy())
	row := begin()
	for n := range 300 {
		row = slices.Concat(row, bare(0, 1, string([]byte{byte('A' + n/32), byte('A' + n%32)})), le(4, 1<<24), []byte{0}, le(4, 1<<24))
	}
	b.takes("/", sealed(row, []byte{255}), 300, api.OK)
	if u, _ := b.Usage(); u.Live != 300 {
		t.Errorf("%d pages are current", u.Live)
	}
}

// slowTake makes the calls that the chapter names, one by one.
func slowTake(d *files.Disk, p string, row []byte) (int, api.Errno) {
	tree, e := slowRead(row)
	if e != api.OK {
		return 0, e
	}
	clean, e := path.Clean(p)
	if e != api.OK {
		return 0, e
	}
	above := slowNames(clean)
	if slices.Contains(above, "..") {
		return 0, api.ErrPath
	}
	for n, l := range tree[1:] {
		if e := slowLay(d, slices.Concat(above, slowNames(l.Path)), l); e != api.OK {
			return n, e
		}
	}
	return len(tree) - 1, api.OK
}

func slowLay(d *files.Disk, names []string, l api.Leaf) api.Errno {
	at, e := path.Join(names...)
	if e != api.OK {
		return e
	}
	calls := []api.Call{}
	stamp := func() {
		if l.Stamp != 0 {
			calls = append(calls, api.Call{Op: api.CallTouch, Path: at, Stamp: l.Stamp})
		}
	}
	switch l.Type {
	case api.TypeDir:
		calls = append(calls, api.Call{Op: api.CallMkdir, Path: at, Mode: l.Mode})
		stamp()
	case api.TypeLink:
		calls = append(calls, api.Call{Op: api.CallLink, Path: at, To: l.Target})
	case api.TypeFile:
		calls = append(calls, api.Call{Op: api.CallOpen, Path: at, Flags: api.OpenWrite | api.OpenCreate | api.OpenNew, Mode: l.Mode})
		cut, holes := slowCut(l.Data)
		from := 0
		for n, x := range cut {
			if !holes[n] {
				calls = append(calls, api.Call{Op: api.CallWrite, At: from, Data: x})
			} else if n == len(cut)-1 {
				calls = append(calls, api.Call{Op: api.CallTruncate, Size: len(l.Data)})
			}
			from += len(x)
		}
		calls = append(calls, api.Call{Op: api.CallClose})
		stamp()
	}
	h := 0
	for _, c := range calls {
		c.Handle = h
		r := d.Call(c)
		if c.Op == api.CallOpen {
			h = r.Number
		}
		if r.E != api.OK {
			d.Close(h)
			return r.E
		}
	}
	return api.OK
}

// someFaults meet commands here and there.
func someFaults(r *rand.Rand) []api.Fault {
	var list []api.Fault
	for at := 2 + r.Intn(30); len(list) < 20; at += 1 + r.Intn(40) {
		list = append(list, api.Fault{At: at, Kind: api.FaultFail + r.Intn(20)/19, Mask: rep(byte(r.Intn(256)), r.Intn(300)), Fill: byte(r.Intn(256))})
	}
	return list
}

// Take makes just the calls that the chapter names, whatever faults meet them; P11: the same again gives the same.
func TestTakeModel(t *testing.T) {
	ends := map[api.Errno]int{}
	for seed := range int64(400) {
		r := rand.New(rand.NewSource(seed))
		g := []api.Geometry{roomy(), shape(14, 4, 1), shape(12, 8, 2)}[r.Intn(3)]
		var faults []api.Fault
		if r.Intn(2) == 0 {
			faults = someFaults(r)
		}
		a, b := begun(t, g, faults...), begun(t, g, faults...)
		for _, p := range []string{"/zz", "/zz/a", "/zz/b"} {
			if e, f := a.Mkdir(p, 493), b.Mkdir(p, 493); e != f {
				t.Fatalf("Mkdir: %d, %d", e, f)
			}
		}
		for range 2 + r.Intn(4) {
			row := packed(t, someTree(r, 14))
			at := []string{"/", "/", "/zz", "/zz/a", "/zz/b", "/zz/b", "/zz/../a", "/c!", "/a"}[r.Intn(9)]
			n, e := Take(a.Disk, at, row)
			m, f := slowTake(b.Disk, at, row)
			if n != m || e != f {
				t.Fatalf("Take: %d, %d, want %d, %d", n, e, m, f)
			}
			ends[e]++
		}
		if !reflect.DeepEqual(a.c.Trace(), b.c.Trace()) || !reflect.DeepEqual(a.c.Image(), b.c.Image()) {
			t.Fatal("P11: the chip was given other commands")
		}
		x, e := a.Tree()
		y, f := b.Tree()
		if e != f || !sameTree(x, y) {
			t.Fatalf("the trees differ: %v, %v", x, y)
		}
		a.noneOpen()
		a.keepsRules()
	}
	for _, e := range []api.Errno{api.OK, api.ErrExists, api.ErrMissing, api.ErrNotDir, api.ErrSpace, api.ErrPath, api.ErrOff} {
		if ends[e] < 3 {
			t.Errorf("too few of a kind: %v", ends)
		}
	}
}

// asTaken is what Store tells of a tree that was taken: links have files' mode and stamp, the first leaf those of the directory.
func asTaken(tree []api.Leaf, first api.Leaf) []api.Leaf {
	tree = slices.Clone(tree)
	tree[0].Mode, tree[0].Stamp = first.Mode, first.Stamp
	for n := range tree {
		if tree[n].Type == api.TypeLink {
			tree[n].Mode, tree[n].Stamp = 511, 0
		}
	}
	return tree
}

// P18.4, P10: what was taken into an empty directory is what Store tells; and in the next life, too.
func TestP184TakeAndStore(t *testing.T) {
	for seed := range int64(60) {
		r := rand.New(rand.NewSource(seed))
		b := begun(t, shape(60, 8, 1+r.Intn(2)))
		at := []string{"/", "/d", "/d/e"}[r.Intn(3)]
		if at != "/" {
			b.dirs("/d", "/d/e")
			b.Touch(at, 9)
		}
		if at == "/d" {
			b.Rmdir("/d/e")
		}
		first, e := b.Stat(at)
		if e != api.OK {
			t.Fatal(e)
		}
		tree := someTree(r, 30)
		b.takes(at, packed(t, tree), len(tree)-1, api.OK)
		want := packed(t, asTaken(tree, api.Leaf{Mode: first.Mode, Stamp: first.Stamp}))
		if row, e := Store(b.Disk, at); e != api.OK || !bytes.Equal(row, want) {
			t.Fatalf("P18.4: Store tells another row: %d", e)
		}
		if r.Intn(2) == 0 {
			b.Unmount()
		}
		next := mounted(t, b.c)
		if row, e := Store(next.Disk, at); e != api.OK || !bytes.Equal(row, want) {
			t.Fatalf("P18.4: in the next life Store tells another row: %d", e)
		}
		// Taken again elsewhere, it is the same: links are as they will stay.
		next.dirs("/zz")
		if n, e := Take(next.Disk, "/zz", want); e == api.OK {
			again, _ := asTaken(tree, api.Leaf{Mode: 493}), n
			if row, e := Store(next.Disk, "/zz"); e != api.OK || !bytes.Equal(row, packed(t, again)) {
				t.Fatalf("P18.4: what was stored is taken as another: %d", e)
			}
		} else if e != api.ErrSpace {
			t.Fatalf("Take: %d, %d", n, e)
		}
	}
}

// P4: wherever the power goes in a Take, the next life has the leaves that were laid out, and of the next one a part at most.
func TestTakeCut(t *testing.T) {
	r := rand.New(rand.NewSource(8))
	tree := []api.Leaf{dir("/"), dir("/a"), file("/a/f", rep(1, 700)...), file("/a/h", slices.Concat(rep(2, 300), make([]byte, 400))...), link("/a/l", "f"), dir("/b"), file("/c", 'c')}
	tree[1].Stamp, tree[3].Stamp, tree[6].Stamp = 5, 6, 7
	row := packed(t, tree)
	for at := 2; ; at++ {
		b := begun(t, roomy(), api.Fault{At: at, Kind: api.FaultCut, Mask: rep(byte(r.Intn(256)), r.Intn(313)), Fill: byte(r.Intn(256))})
		n, e := Take(b.Disk, "/", row)
		if e == api.OK {
			if n != 6 || at < 20 {
				t.Errorf("Take: %d, behind %d commands", n, at)
			}
			break
		}
		if e != api.ErrOff {
			t.Fatalf("Take: %d", e)
		}
		b.c.On()
		next := mounted(t, b.c)
		got := next.tree()
		want := asTaken(tree, dir("/"))
		if len(got) < n+1 || len(got) > n+2 || !sameTree(got[:n+1], want[:n+1]) {
			t.Fatalf("P4: cut at %d: %d leaves were laid out, the next life has %v", at, n, got)
		}
		if len(got) == n+2 && (got[n+1].Path != want[n+1].Path || !bytes.HasPrefix(want[n+1].Data, got[n+1].Data)) {
			t.Fatalf("P4: cut at %d: the next life has %v", at, got[n+1])
		}
		next.keepsRules()
	}
}

// R4: what is handed to Take and Store is neither changed nor kept.
func TestTakeHandedIn(t *testing.T) {
	b := begun(t, roomy())
	row := packed(t, []api.Leaf{dir("/"), file("/a", rep(7, 600)...), link("/l", "target")})
	long := append(slices.Clone(row), 1, 2, 3)
	was := slices.Clone(long)
	b.takes("/", long[:len(row)], 2, api.OK)
	if !bytes.Equal(long, was) {
		t.Error("R4: the row has changed")
	}
	clear(long)
	stored, e := Store(b.Disk, "/")
	if e != api.OK {
		t.Fatal(e)
	}
	kept := slices.Clone(stored)
	clear(stored)
	if again, e := Store(b.Disk, "/"); e != api.OK || !bytes.Equal(again, kept) {
		t.Errorf("R4: what Store told is kept: %d", e)
	}
	if target, e := b.Target("/l"); target != "target" || e != api.OK {
		t.Errorf("R4: Take keeps the row: %q, %d", target, e)
	}
}
