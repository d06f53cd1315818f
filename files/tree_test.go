package files

import (
	"math"
	"math/rand"
	"slices"
	"strings"
	"testing"

	"shale/api"
	"shale/path"
	"shale/volume"
)

// grove is a disk with the file /f (2), the directory /d (3), in it the file g (4) and the empty directory h (5), and the links /lf (6) to f, /ld (7) to d, /loop (8) to itself, /none (9) to nothing.
func grove(t *testing.T) *bench {
	t.Helper()
	b := begun(t, roomy())
	b.file("/f", "of f")
	b.dirs("/d")
	b.file("/d/g", "of g")
	b.dirs("/d/h")
	b.link("/lf", "d/../f")
	b.link("/ld", "/d")
	b.link("/loop", "loop")
	b.link("/none", "nothing/there")
	b.steps()
	return b
}

// badPlaces has paths that have no place in a grove.
func badPlaces() map[string]api.Errno {
	return map[string]api.Errno{
		"": api.ErrPath, "f": api.ErrPath, "/": api.ErrPath, "/.": api.ErrPath, "/..": api.ErrPath, "/d/..": api.ErrPath, "/x/..": api.ErrPath, "/n\x00": api.ErrPath,
		"/" + letters(64): api.ErrLong, strings.Repeat("/d", 65): api.ErrLong, strings.Repeat("/", 1024) + "n": api.ErrLong,
		"/x/n": api.ErrMissing, "/d/x/n": api.ErrMissing, "/none/n": api.ErrMissing,
		"/f/n": api.ErrNotDir, "/lf/n": api.ErrNotDir, "/f/x/n": api.ErrNotDir, "/f/../n": api.ErrNotDir,
		"/loop/n": api.ErrLoop,
	}
}

// F5, F6, F7: a path that has no place is refused first of all.
func TestPlaces(t *testing.T) {
	b := grove(t)
	for p, want := range badPlaces() {
		b.is("Mkdir "+p, b.Mkdir(p, -1), want)
		b.is("Link "+p, b.Link(p, ""), want)
		b.is("Rmdir "+p, b.Rmdir(p), want)
		b.is("Unlink "+p, b.Unlink(p), want)
		b.is("Rename from "+p, b.Rename(p, "/f/x"), want)
		b.is("Rename to "+p, b.Rename("/missing", p), want)
		b.shut(p, 7, -1, want)
	}
	b.silent("what has no place")
}

// F5: directories and links are made.
func TestF5Make(t *testing.T) {
	b := grove(t)
	for _, p := range []string{"/f", "/d", "/lf", "/ld", "/none", "/ld/g"} {
		b.is("Mkdir of what is there", b.Mkdir(p, 0), api.ErrExists)
		b.is("Link of what is there", b.Link(p, "x"), api.ErrExists)
	}
	for _, mode := range []int{-1, 4096, math.MaxInt, math.MinInt} {
		b.is("Mkdir of another mode", b.Mkdir("/n", mode), api.ErrNode)
		b.is("Mkdir of another mode, of what is there", b.Mkdir("/d", mode), api.ErrNode)
	}
	for _, target := range []string{"", "a\x00", letters(128)} {
		b.is("Link to "+target, b.Link("/n", target), api.ErrTarget)
		b.is("Link of what is there", b.Link("/f", target), api.ErrTarget)
	}
	b.silent("what is refused")
	b.is("Mkdir", b.Mkdir("/ld/h/../n/", 4095), api.OK)
	b.is("Mkdir", b.Mkdir("/d/n/"+letters(63), 0), api.OK)
	b.is("Link", b.Link("/ld/n/l", letters(127)), api.OK)
	b.gives("three that are made", 3)
	b.stats("/d/n", api.Stat{Id: 10, Type: api.TypeDir, Mode: 4095})
	b.stats("/d/n/"+letters(63), api.Stat{Id: 11, Type: api.TypeDir})
	if s, e := b.Look("/d/n/l"); s != (api.Stat{Id: 12, Type: api.TypeLink, Mode: 511}) || e != api.OK {
		t.Errorf("Look: %v, %d", s, e)
	}
	if text, e := b.Target("/d/n/l"); text != letters(127) || e != api.OK {
		t.Errorf("Target: %q, %d", text, e)
	}
}

// F6: what is taken away: empty directories by Rmdir, all else by Unlink; links are not followed.
func TestF6TakeAway(t *testing.T) {
	b := grove(t)
	b.is("Rmdir of nothing", b.Rmdir("/x"), api.ErrMissing)
	b.is("Rmdir of a file", b.Rmdir("/f"), api.ErrNotDir)
	b.is("Rmdir of a link to a directory", b.Rmdir("/ld/"), api.ErrNotDir)
	b.is("Rmdir of what is not empty", b.Rmdir("/d"), api.ErrUsed)
	b.is("Unlink of nothing", b.Unlink("/d/x"), api.ErrMissing)
	b.is("Unlink of a directory", b.Unlink("/d"), api.ErrIsDir)
	b.is("Unlink of an empty directory", b.Unlink("/ld/h"), api.ErrIsDir)
	b.silent("what is refused")
	for _, p := range []string{"/ld", "/lf", "/loop", "/none", "/d/g"} {
		b.is("Unlink "+p, b.Unlink(p), api.OK)
		b.missing(p)
	}
	b.is("Rmdir", b.Rmdir("/d/h"), api.OK)
	b.is("Rmdir", b.Rmdir("/d"), api.OK)
	b.gives("seven that are gone", 7)
	b.tree("/f")
	if got := b.objects(); !slices.Equal(got, []int{2}) {
		t.Errorf("F6: what was let go is still there: %v", got)
	}
	b.dirs("/new")
	b.stats("/new", api.Stat{Id: 3, Type: api.TypeDir, Mode: 493})
}

// F7: what Rename refuses, in the document's order.
func TestF7Refused(t *testing.T) {
	b := grove(t)
	b.is("nothing there", b.Rename("/x", "/y"), api.ErrMissing)
	b.is("nothing there", b.Rename("/x", "/d"), api.ErrMissing)
	b.is("into itself", b.Rename("/d", "/d/n"), api.ErrInto)
	b.is("into itself", b.Rename("/d", "/d/h/n"), api.ErrInto)
	b.is("into itself, through a link", b.Rename("/d", "/ld/h"), api.ErrInto)
	b.is("a file in the place of a directory", b.Rename("/f", "/d/h"), api.ErrIsDir)
	b.is("a link in the place of a directory", b.Rename("/ld", "/d"), api.ErrIsDir)
	b.is("a directory in the place of a file", b.Rename("/d/h", "/f"), api.ErrNotDir)
	b.is("a directory in the place of a link", b.Rename("/d/h", "/ld"), api.ErrNotDir)
	b.is("a directory in the place of one with entries", b.Rename("/d/h", "/d"), api.ErrUsed)
	b.is("the root", b.Rename("/", "/n"), api.ErrPath)
	b.is("onto the root", b.Rename("/d", "/"), api.ErrPath)
	b.silent("what is refused")
}

// F7: what is renamed keeps its number and bytes; what was there is let go.
func TestF7Rename(t *testing.T) {
	b := grove(t)
	for _, p := range []string{"/f", "/d", "/ld/g", "/lf"} {
		b.is("to where it is", b.Rename(p, p+"/."), api.OK)
	}
	b.is("to where it is", b.Rename("/ld/g", "/d/g"), api.OK)
	b.silent("to where it is")
	b.is("a file", b.Rename("/f", "/ld/h/f"), api.OK)
	b.stats("/d/h/f", api.Stat{Id: 2, Type: api.TypeFile, Size: 4, Mode: 420})
	b.missing("/f", "/lf")
	b.is("a directory with all below it", b.Rename("/d", "/e"), api.OK)
	b.stats("/e/h/f", api.Stat{Id: 2, Type: api.TypeFile, Size: 4, Mode: 420})
	b.is("a link", b.Rename("/lf", "/e/lf"), api.OK)
	if text, e := b.Target("/e/lf"); text != "d/../f" || e != api.OK {
		t.Errorf("Target: %q, %d", text, e)
	}
	b.gives("three that are renamed", 3)
	b.is("in the place of a file", b.Rename("/e/g", "/e/h/f"), api.OK)
	b.is("a link in the place of a file", b.Rename("/e/lf", "/e/h/f"), api.OK)
	b.dirs("/n")
	b.is("a directory in the place of an empty one", b.Rename("/e/h", "/n"), api.OK)
	if got := b.objects(); !slices.Equal(got, []int{3, 5, 6, 7, 8, 9}) {
		t.Errorf("F7: the objects %v", got)
	}
	b.tree("/e", "/ld", "/loop", "/n", "/n/f", "/none")
}

// F8: what a path leads to, or is.
func TestF8Tell(t *testing.T) {
	b := grove(t)
	file, dir := api.Stat{Id: 2, Type: api.TypeFile, Size: 4, Mode: 420}, api.Stat{Id: 3, Type: api.TypeDir, Mode: 493}
	for p, want := range map[string]api.Stat{"/f": file, "/lf": file, "/d": dir, "/ld": dir, "/ld/.": dir, "/ld/h/..": dir, "/d/../f": file, "/ld/../lf": file, "/": {Id: 1, Type: api.TypeDir, Mode: 493}, "/ld/..": {Id: 1, Type: api.TypeDir, Mode: 493}, "/../..": {Id: 1, Type: api.TypeDir, Mode: 493}} {
		b.stats(p, want)
	}
	for p, want := range map[string]api.Stat{"/f": file, "/lf": {Id: 6, Type: api.TypeLink, Mode: 511}, "/loop": {Id: 8, Type: api.TypeLink, Mode: 511}, "/ld/g": {Id: 4, Type: api.TypeFile, Size: 4, Mode: 420}, "/ld/..": {Id: 1, Type: api.TypeDir, Mode: 493}} {
		if s, e := b.Look(p); s != want || e != api.OK {
			t.Errorf("Look(%q): %v, %d, want %v", p, s, e, want)
		}
	}
	for p, want := range map[string]string{"/lf": "d/../f", "/d/h/../../ld/": "/d"} {
		if text, e := b.Target(p); text != want || e != api.OK {
			t.Errorf("Target(%q): %q, %d, want %q", p, text, e, want)
		}
	}
	for p, want := range map[string][]api.Entry{
		"/ld":  {{Name: "g", Id: 4, Type: api.TypeFile}, {Name: "h", Id: 5, Type: api.TypeDir}},
		"/d/h": nil,
		"/":    {{Name: "d", Id: 3, Type: api.TypeDir}, {Name: "f", Id: 2, Type: api.TypeFile}, {Name: "ld", Id: 7, Type: api.TypeLink}, {Name: "lf", Id: 6, Type: api.TypeLink}, {Name: "loop", Id: 8, Type: api.TypeLink}, {Name: "none", Id: 9, Type: api.TypeLink}},
	} {
		if list, e := b.List(p); !slices.Equal(list, want) || e != api.OK {
			t.Errorf("List(%q): %v, %d, want %v", p, list, e, want)
		}
	}
	b.silent("what only tells")
}

// F8: paths that lead nowhere, and what is of another type.
func TestF8Refused(t *testing.T) {
	b := grove(t)
	for p, want := range map[string]api.Errno{"": api.ErrPath, "d": api.ErrPath, "/\x00": api.ErrPath, "/" + letters(64): api.ErrLong, strings.Repeat("/.", 512): api.ErrLong, "/x": api.ErrMissing, "/x/..": api.ErrMissing, "/f/x": api.ErrNotDir, "/f/..": api.ErrNotDir, "/lf/x": api.ErrNotDir, "/none/x": api.ErrMissing, "/loop/x": api.ErrLoop} {
		for op := api.CallTarget; op <= api.CallTouch; op++ {
			if r := b.Call(api.Call{Op: op, Path: p, Mode: -1}); !sameReply(r, api.Reply{E: want}) {
				t.Errorf("F8: the call %d of %.20q: %v, want %d", op, p, r, want)
			}
		}
	}
	for _, op := range []int{api.CallList, api.CallStat, api.CallChmod, api.CallTouch} {
		b.is("through a loop", b.Call(api.Call{Op: op, Path: "/loop"}).E, api.ErrLoop)
		b.is("through a link to nothing", b.Call(api.Call{Op: op, Path: "/none"}).E, api.ErrMissing)
	}
	for _, p := range []string{"/", "/f", "/d", "/ld/", "/d/../ld/."} {
		text, e := b.Target(p)
		want := api.ErrType
		if strings.Contains(p, "ld") {
			want = api.OK
		}
		if e != want || (text == "") != (e != api.OK) {
			t.Errorf("Target(%q): %q, %d", p, text, e)
		}
	}
	for _, p := range []string{"/f", "/lf", "/ld/g"} {
		if list, e := b.List(p); list != nil || e != api.ErrNotDir {
			t.Errorf("List(%q): %v, %d", p, list, e)
		}
	}
	b.silent("what is refused")
}

// F8: modes and stamps, each by itself, of what the path leads to.
func TestF8ChmodAndTouch(t *testing.T) {
	b := grove(t)
	b.is("Chmod of the root", b.Chmod("/", 493), api.ErrRoot)
	b.is("Chmod of the root", b.Chmod("/ld/..", -1), api.ErrRoot)
	b.is("Touch of the root", b.Touch("/", 0), api.ErrRoot)
	for _, mode := range []int{-1, 4096, math.MaxInt, math.MinInt} {
		b.is("Chmod to another mode", b.Chmod("/f", mode), api.ErrNode)
	}
	b.is("Chmod to what it is", b.Chmod("/lf", 420), api.OK)
	b.is("Touch to what it is", b.Touch("/ld", 0), api.OK)
	b.silent("nothing to be done")
	b.is("Chmod", b.Chmod("/lf", 4095), api.OK)
	b.is("Touch", b.Touch("/lf", math.MaxUint64), api.OK)
	b.is("Touch", b.Touch("/ld", 7), api.OK)
	b.is("Chmod", b.Chmod("/ld", 0), api.OK)
	b.gives("four that are set", 4)
	b.stats("/f", api.Stat{Id: 2, Type: api.TypeFile, Size: 4, Mode: 4095, Stamp: math.MaxUint64})
	b.stats("/d", api.Stat{Id: 3, Type: api.TypeDir, Stamp: 7})
	if s, e := b.Look("/lf"); s != (api.Stat{Id: 6, Type: api.TypeLink, Mode: 511}) || e != api.OK {
		t.Errorf("the link: %v, %d", s, e)
	}
}

// F9: the leaves, by rising name, each with all below it at once.
func TestF9Tree(t *testing.T) {
	b := grove(t)
	b.dirs("/d!", "/d/h/a", "/D")
	b.is("Touch", b.Touch("/d", 5), api.OK)
	want := []api.Leaf{
		{Path: "/", Type: api.TypeDir, Mode: 493},
		{Path: "/D", Type: api.TypeDir, Mode: 493},
		{Path: "/d", Type: api.TypeDir, Mode: 493, Stamp: 5},
		{Path: "/d/g", Type: api.TypeFile, Mode: 420, Data: []byte("of g")},
		{Path: "/d/h", Type: api.TypeDir, Mode: 493},
		{Path: "/d/h/a", Type: api.TypeDir, Mode: 493},
		{Path: "/d!", Type: api.TypeDir, Mode: 493},
		{Path: "/f", Type: api.TypeFile, Mode: 420, Data: []byte("of f")},
		{Path: "/ld", Type: api.TypeLink, Mode: 511, Target: "/d"},
		{Path: "/lf", Type: api.TypeLink, Mode: 511, Target: "d/../f"},
		{Path: "/loop", Type: api.TypeLink, Mode: 511, Target: "loop"},
		{Path: "/none", Type: api.TypeLink, Mode: 511, Target: "nothing/there"},
	}
	if got, e := b.Tree(); !sameTree(got, want) || e != api.OK {
		t.Errorf("Tree: %v, %d, want %v", got, e, want)
	}
	if s, e := b.State(); e != api.OK || len(s.Objects) != 11 || len(s.Blocks) != 60 {
		t.Errorf("State: %v, %d", s, e)
	}
	if u, e := b.Usage(); u != (api.Usage{Good: 60, Live: 13, Limit: 53 * 7}) || e != api.OK {
		t.Errorf("Usage: %v, %d", u, e)
	}
}

// F9: what was unlinked and is open is in no tree; the first error of a file's bytes is the answer's.
func TestF9TreeOfPagesThatCannotBeRead(t *testing.T) {
	b := begun(t, small(), api.Fault{At: 8, Kind: api.FaultCut})
	b.opens("/f", 7, 1)
	b.is("Unlink", b.Unlink("/f"), api.OK)
	b.file("/e", "")
	b.tree("/e")
	b.is("a step that is cut", b.Chmod("/e", 0), api.ErrOff)
	b.tree("/e") // no page of it needs to be read
	b = begun(t, small(), api.Fault{At: 6, Kind: api.FaultCut})
	b.file("/f", "bytes")
	b.is("a step that is cut", b.Chmod("/f", 0), api.ErrOff)
	if list, e := b.Tree(); list != nil || e != api.ErrOff {
		t.Errorf("Tree without power: %v, %d", list, e)
	}
	b.again().tree("/f")
}

// P17.1: true paths at the edge, in names and in bytes; links and `..` lead round the limits of a path, not round those of the true one.
func TestP171TruePathsFit(t *testing.T) {
	b := begun(t, shape(200, 8, 1))
	deep := ""
	for range 63 {
		deep += "/x"
		b.dirs(deep)
	}
	b.link("/far", deep[:2*30])
	b.link(deep[:2*30]+"/on", deep[1:2*30])
	b.steps()
	b.dirs(deep + "/y") // 64 names
	for _, p := range []string{"/far/on/x/x/x/y/z", "/far/../x/on/x/../x/x/x/y/z"} {
		b.is("65 names", b.Mkdir(p, -1), api.ErrLong)
		b.is("65 names", b.Link(p, ""), api.ErrLong)
		b.shut(p, 7, -1, api.ErrLong)
		b.shut(p, api.OpenRead, 0, api.ErrMissing)
	}
	b.stats("/far/on/x/x/x/y", api.Stat{Id: 67, Type: api.TypeDir, Mode: 493})
	b.gives("one that fits", 1)
	b = begun(t, shape(60, 8, 1))
	wide := ""
	for range 15 {
		wide += "/" + letters(63)
		b.dirs(wide)
	}
	b.link("/w", letters(63)+"/"+letters(63))
	way := "/w" + wide[2*64:]
	b.is("1023 bytes", b.Mkdir(way+"/"+letters(62), 0), api.OK)
	b.is("1024 bytes", b.Mkdir(way+"/"+letters(63), 0), api.ErrLong)
	b.shut(way+"/"+letters(63), 7, 0, api.ErrLong)
	b.is("1025 bytes", b.Mkdir(way+"/"+letters(62)+"/y", 0), api.ErrLong)
	b.is("1024 bytes", b.Rename(way+"/"+letters(62), way+"/"+letters(63)), api.ErrLong)
	b.is("a name like it", b.Rename(way+"/"+letters(62), way+"/"+strings.Repeat("y", 62)), api.OK)
}

// F7: the true path of each object below what is renamed must fit; ErrLong stands ahead of what volume.Move answers.
func TestF7TooDeepBelow(t *testing.T) {
	b := begun(t, shape(200, 8, 1))
	at := ""
	for range 40 {
		at += "/a"
		b.dirs(at)
	}
	down := ""
	for range 24 {
		down += "/b"
		b.dirs(down)
	}
	b.file(down+"/f", "")
	b.file(at+"/file", "")
	b.steps()
	b.is("65 names at the lowest", b.Rename("/b", at+"/b"), api.ErrLong)
	b.is("ahead of ErrInto", b.Rename("/a", at+"/n"), api.ErrLong)
	b.is("ahead of ErrNotDir", b.Rename("/b", at+"/file"), api.ErrLong)
	b.silent("what does not fit")
	b.is("64 names", b.Rename("/b/b", at+"/b"), api.OK)
	b.stats(at+down[2:]+"/f", api.Stat{Id: 66, Type: api.TypeFile, Mode: 420})
	b.is("one name more", b.Rename("/a", "/b/a"), api.ErrLong)
	b.is("as many names", b.Rename("/a", "/c"), api.OK)
}

// P17.1 and F7 against the model, in deep trees with long names.
func TestP171DeepTrees(t *testing.T) {
	long, into := 0, 0
	for seed := range int64(6) {
		r := rand.New(rand.NewSource(seed))
		w := newWorld(t, r, shape(100, 16, 1))
		for range 250 {
			tree := w.m.leaves(1)
			pick := func() string { // the longest of some
				p := ""
				for range 5 {
					if x := someOf(r, tree...); x.Type == api.TypeDir && len(x.Path) > len(p) {
						p = x.Path
					}
				}
				return p
			}
			name := "/" + someOf(r, "a", "b", strings.Repeat("c", 63), strings.Repeat("d", 50))
			c := api.Call{Op: someOf(r, api.CallMkdir, api.CallMkdir, api.CallMkdir, api.CallRename, api.CallRename, api.CallLink), Path: pick() + name, To: pick() + name}
			if c.Op == api.CallRename {
				c.Path = someOf(r, tree...).Path
			}
			if c.Op == api.CallLink {
				c.To = c.To[:min(len(c.To), 127)]
			}
			w.goes(c)
		}
		w.shows("at the end")
		long, into = long+w.ends[api.ErrLong], into+w.ends[api.ErrInto]
	}
	if long < 50 || into < 10 {
		t.Errorf("%d calls answered ErrLong, %d ErrInto", long, into)
	}
}

// P17.3 and P17.4, in random trees: where a path leads through a link, it leads where that path leads in which the link's names stand in its place.
func TestP174Links(t *testing.T) {
	followed := 0
	for seed := range int64(20) {
		r := rand.New(rand.NewSource(seed))
		w := newWorld(t, r, shape(30, 8, 1))
		for range 200 {
			c := w.m.someCall(r)
			if c.Op == api.CallWrite || c.Op == api.CallUnlink {
				c = api.Call{Op: api.CallLink, Path: w.m.somePath(r), To: w.m.someTarget(r)}
			}
			w.goes(c)
		}
		w.shows("a tree with links")
		tree, _ := w.Tree()
		for _, x := range tree {
			if x.Type != api.TypeLink {
				continue
			}
			front := x.Path[:strings.LastIndexByte(x.Path, '/')] + "/"
			if x.Target[0] == '/' {
				front = ""
			}
			for _, rest := range []string{"", "/..", "/a", "/a/b", "/../a", "/l/.."} {
				got, e := w.Stat(x.Path + rest)
				want, f := w.Stat(front + x.Target + rest)
				if e == api.ErrLoop || e == api.ErrLong || f == api.ErrLoop || f == api.ErrLong {
					continue
				}
				if got != want || e != f {
					t.Fatalf("P17.4: Stat(%q): %v, %d, but %q: %v, %d", x.Path+rest, got, e, front+x.Target+rest, want, f)
				}
				if e == api.OK {
					followed++
				}
			}
		}
	}
	if followed < 100 {
		t.Errorf("%d links were followed", followed)
	}
}

// P17.6: behind Unmount and Mount the tree is the same, whether a checkpoint is there or not.
func TestP176ThereAndBack(t *testing.T) {
	for seed := range int64(20) {
		r := rand.New(rand.NewSource(seed))
		w := newWorld(t, r, shapes()[seed%5])
		for range 6 {
			for range 30 {
				w.goes(w.m.someCall(r))
			}
			ahead, _ := w.Tree()
			w.is("Unmount", w.Unmount(), api.OK)
			w.bench = w.again()
			w.m = w.m.nextLife()
			if behind, e := w.Tree(); e != api.OK || !sameTree(ahead, behind) {
				t.Fatalf("P17.6: %v, then %v, %d", ahead, behind, e)
			}
			w.shows("behind Unmount and Mount")
		}
	}
}

// foreign is a disk on which others have laid directories, 70 one in another, the last of which has a file.
func foreign(t *testing.T) *bench {
	t.Helper()
	b := begun(t, shape(100, 8, 1))
	v, e := volume.Mount(b.c)
	if e != api.OK {
		t.Fatalf("volume.Mount: %d", e)
	}
	parent := api.Root
	for range 70 {
		if parent, e = v.Make(api.Node{Type: api.TypeDir, Parent: parent, Name: "x", Mode: 493}); e != api.OK {
			t.Fatalf("Make: %d", e)
		}
	}
	v.Make(api.Node{Type: api.TypeFile, Parent: parent, Name: "f"})
	return b.again()
}

// F9, F5, F7: what others have laid too deep is left out of the tree, can be reached by links, and can be brought where it fits.
func TestF9WhatDoesNotFit(t *testing.T) {
	b := foreign(t)
	var want []string
	for n := range 64 {
		want = append(want, strings.Repeat("/x", n+1))
	}
	b.tree(want...)
	b.link("/k", strings.Repeat("/x", 30))
	b.link("/k/m", strings.Repeat("x/", 30))
	deep := "/k/m" + strings.Repeat("/x", 10)
	b.stats(deep+"/f", api.Stat{Id: 72, Type: api.TypeFile})
	b.seen = len(b.c.Trace())
	b.is("Mkdir", b.Mkdir(deep+"/n", 0), api.ErrLong)
	b.shut(deep+"/n", 7, 0, api.ErrLong)
	b.is("what lies below does not fit", b.Rename("/x", "/y"), api.ErrLong)
	b.is("nor to where it is", b.Rename("/x", "/x"), api.ErrLong)
	b.is("nor there", b.Rename(deep+"/f", deep+"/g"), api.ErrLong)
	b.silent("what does not fit")
	b.opens(deep+"/f", 3, 1)
	b.is("brought up", b.Rename("/k/m/x/x", "/up"), api.OK)
	b.stats("/up"+strings.Repeat("/x", 8)+"/f", api.Stat{Id: 72, Type: api.TypeFile})
	b.is("now it fits", b.Rename("/x", "/y"), api.OK)
	b.is("gone", b.Unlink("/up"+strings.Repeat("/x", 8)+"/f"), api.OK)
	list, e := b.Tree()
	if e != api.OK || len(list) != 1+70+2 {
		t.Errorf("Tree: %d leaves, %d", len(list), e)
	}
	for _, x := range list {
		if clean, e := path.Clean(x.Path); clean != x.Path || e != api.OK {
			t.Errorf("P17.1: the path %q", x.Path)
		}
	}
}
