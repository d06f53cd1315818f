package path

import (
	"math/rand"
	"slices"
	"strconv"
	"strings"
	"testing"

	"shale/api"
)

// told is what a step tells.
type told struct {
	next string
	link string
	is   bool
	e    api.Errno
}

// town has, by a thing and a name ("d:e" stands for the name e from the thing d), what a step tells, and what it was asked.
type town struct {
	ways  map[string]told
	asked []string
}

func (w *town) step(at, name string) (string, string, bool, api.Errno) {
	key := at + ":" + name
	w.asked = append(w.asked, key)
	x, there := w.ways[key]
	if !there {
		return "nowhere", "nothing", true, api.ErrMissing
	}
	return x.next, x.link, x.is, x.e
}

func leads(next string) told { return told{next: next} }

func linkTo(text string) told { return told{next: "the link", link: text, is: true} }

// ways are those of a little tree: d has e, e has f; the others are links.
func ways() map[string]told {
	return map[string]told{
		"R:d": leads("D"), "D:e": leads("E"), "E:f": leads("F"), "E:..": leads("D"), "D:..": leads("R"), "R:..": leads("R"),
		"R:l": linkTo("d/e"), "R:abs": linkTo("/d/e"), "D:back": linkTo("../d//./e/"), "D:abs": linkTo("/d"), "D:one": linkTo("e"), "E:two": linkTo("f"),
		"R:m": linkTo("/m"), "R:self": linkTo("self"), "D:root": linkTo("/"), "D:here": linkTo("."), "R:up": linkTo(".."),
		"R:empty": linkTo(""), "R:zero": linkTo("a\x00"), "R:zero2": linkTo("/\x00" + letters(2000)),
		"R:longname": linkTo(letters(64)), "R:fits": linkTo(letters(63)), "R:deep": linkTo(ladder(65)), "R:most": linkTo(ladder(64)),
		"R:bytes": linkTo(strings.Repeat("./", 511) + "x"), "R:bytes2": linkTo(strings.Repeat("./", 511)), "R:bytes3": linkTo("/" + strings.Repeat("./", 511)), "R:bytes4": linkTo("//" + strings.Repeat("./", 511)),
		"R:wrong": {next: "N", link: "d", is: true, e: api.ErrBroken},
		"R:no":    {next: "N", link: "d", is: false},
		"R:c8":    linkTo("c7"), "R:c7": linkTo("c6"), "R:c6": linkTo("c5"), "R:c5": linkTo("c4"), "R:c4": linkTo("c3"), "R:c3": linkTo("c2"), "R:c2": linkTo("c1"), "R:c1": linkTo("d"), "R:c9": linkTo("c8"),
		"R:e8": linkTo("e7"), "R:e7": linkTo("e6"), "R:e6": linkTo("e5"), "R:e5": linkTo("e4"), "R:e4": linkTo("e3"), "R:e3": linkTo("e2"), "R:e2": linkTo("e1"), "R:e1": linkTo("empty"),
	}
}

func TestWalk(t *testing.T) {
	for _, c := range []struct {
		path  string
		last  bool
		want  string
		e     api.Errno
		asked string
	}{
		{"/", true, "R", api.OK, ""}, {"/", false, "R", api.OK, ""}, {"/./", false, "R", api.OK, ""},
		{"/d/e/f", true, "F", api.OK, "R:d D:e E:f"}, {"/d//./e/", false, "E", api.OK, "R:d D:e"},
		{"/../d/../d/e/..", true, "D", api.OK, "R:.. R:d D:.. R:d D:e E:.."},
		{"/l/f", false, "F", api.OK, "R:l R:d D:e E:f"}, {"/l/f", true, "F", api.OK, "R:l R:d D:e E:f"},
		{"/l", false, "the link", api.OK, "R:l"}, {"/l/", false, "the link", api.OK, "R:l"}, {"/l", true, "E", api.OK, "R:l R:d D:e"},
		{"/d/abs/e", true, "E", api.OK, "R:d D:abs R:d D:e"}, {"/d/back/f", false, "F", api.OK, "R:d D:back D:.. R:d D:e E:f"},
		{"/d/one/two", true, "F", api.OK, "R:d D:one D:e E:two E:f"}, {"/d/one/two", false, "the link", api.OK, "R:d D:one D:e E:two"},
		{"/d/root", true, "R", api.OK, "R:d D:root"}, {"/d/root/d", false, "D", api.OK, "R:d D:root R:d"},
		{"/d/here", true, "D", api.OK, "R:d D:here"}, {"/d/here/e", true, "E", api.OK, "R:d D:here D:e"}, {"/up/d", true, "D", api.OK, "R:up R:.. R:d"},
		{"/no", true, "N", api.OK, "R:no"}, // a text beside a false says nothing

		{"/x", true, "", api.ErrMissing, "R:x"}, {"/d/x/e", false, "", api.ErrMissing, "R:d D:x"}, {"/wrong", true, "", api.ErrBroken, "R:wrong"}, {"/wrong", false, "", api.ErrBroken, "R:wrong"},
		{"/m", true, "", api.ErrLoop, strings.Repeat("R:m ", 9)}, {"/m", false, "the link", api.OK, "R:m"}, {"/self/x", false, "", api.ErrLoop, strings.Repeat("R:self ", 9)},
		{"/c8", true, "D", api.OK, "R:c8 R:c7 R:c6 R:c5 R:c4 R:c3 R:c2 R:c1 R:d"},
		{"/c9", true, "", api.ErrLoop, "R:c9 R:c8 R:c7 R:c6 R:c5 R:c4 R:c3 R:c2 R:c1"},
		{"/e8", true, "", api.ErrLoop, "R:e8 R:e7 R:e6 R:e5 R:e4 R:e3 R:e2 R:e1 R:empty"}, // ahead of what is wrong with the ninth one's text
		{"/c8/root", false, "the link", api.OK, "R:c8 R:c7 R:c6 R:c5 R:c4 R:c3 R:c2 R:c1 R:d D:root"},
		{"/c8/root", true, "", api.ErrLoop, "R:c8 R:c7 R:c6 R:c5 R:c4 R:c3 R:c2 R:c1 R:d D:root"},

		{"/empty", true, "", api.ErrPath, "R:empty"}, {"/empty", false, "the link", api.OK, "R:empty"}, {"/zero", true, "", api.ErrPath, "R:zero"}, {"/zero2", true, "", api.ErrPath, "R:zero2"},
		{"/longname", true, "", api.ErrLong, "R:longname"}, {"/fits", true, "", api.ErrMissing, "R:fits R:" + letters(63)},
		{"/deep", true, "", api.ErrLong, "R:deep"}, {"/most", true, "", api.ErrMissing, "R:most R:x"}, {"/most/x", true, "", api.ErrLong, "R:most"},
		{"/bytes", true, "", api.ErrLong, "R:bytes"}, {"/bytes2", true, "R", api.OK, "R:bytes2"}, {"/bytes3", true, "R", api.OK, "R:bytes3"}, {"/bytes4", true, "", api.ErrLong, "R:bytes4"},
		{"/l" + ladder(62), true, "", api.ErrMissing, "R:l R:d D:e E:x"}, {"/l" + ladder(63), true, "", api.ErrLong, "R:l"},
	} {
		w := town{ways: ways()}
		got, e := Walk("R", c.path, c.last, w.step)
		if got != c.want || e != c.e || !slices.Equal(w.asked, strings.Fields(c.asked)) {
			t.Errorf("Walk(%.40q, %v): %q, %d, asked %q; want %q, %d, %s", c.path, c.last, got, e, w.asked, c.want, c.e, c.asked)
		}
	}
}

// A path that may not be is refused, and nothing is asked.
func TestWalkOfWrongPaths(t *testing.T) {
	for p, want := range wrongPaths() {
		w := town{ways: ways()}
		if got, e := Walk("R", p, true, w.step); got != "" || e != want || len(w.asked) != 0 {
			t.Errorf("Walk(%.40q): %q, %d, asked %q; want %d", p, got, e, w.asked, want)
		}
	}
}

// Walk goes over things of any type; with an error it tells that type's zero value.
func TestWalkOverAnyType(t *testing.T) {
	type spot struct{ row, column int }
	east := func(at spot, name string) (spot, string, bool, api.Errno) {
		if name == "wall" {
			return spot{9, 9}, "", false, api.ErrUsed
		}
		return spot{at.row, at.column + 1}, "", false, api.OK
	}
	if got, e := Walk(spot{3, 0}, "/a/b", true, east); got != (spot{3, 2}) || e != api.OK {
		t.Errorf("%v, %d", got, e)
	}
	if got, e := Walk(spot{3, 0}, "/a/wall", true, east); got != (spot{}) || e != api.ErrUsed {
		t.Errorf("%v, %d", got, e)
	}
	first := &spot{1, 1}
	if got, e := Walk(first, "/", true, func(*spot, string) (*spot, string, bool, api.Errno) { return nil, "", false, api.OK }); got != first || e != api.OK {
		t.Errorf("%v, %d", got, e)
	}
}

// slowWalk is Walk in the plainest words: what is to come is one text, which begins anew with each link.
func slowWalk(at int, coming []string, last bool, followed int, step func(int, string) (int, string, bool, api.Errno)) (int, api.Errno) {
	if len(coming) == 0 {
		return at, api.OK
	}
	next, link, is, e := step(at, coming[0])
	rest := coming[1:]
	switch {
	case e != api.OK:
		return 0, e
	case !is, len(rest) == 0 && !last:
		return slowWalk(next, rest, last, followed, step)
	case followed == 8:
		return 0, api.ErrLoop
	case link == "":
		return 0, api.ErrPath
	}
	if link[0] == '/' {
		at = 0
	}
	names, e := Split("/" + strings.TrimPrefix(link, "/"))
	if e == api.OK && len(names)+len(rest) > 64 {
		e = api.ErrLong
	}
	if e != api.OK {
		return 0, e
	}
	return slowWalk(at, append(names, rest...), last, followed+1, step)
}

// Walk asks just what it is to ask, in random mazes; P16.4: never more than so often.
func TestWalkMazes(t *testing.T) {
	ends := map[api.Errno]int{}
	for seed := range int64(20000) {
		r := rand.New(rand.NewSource(seed))
		maze := map[string]told{}
		for at := range 4 {
			for _, name := range []string{"a", "b", "c", ".."} {
				x := told{next: strconv.Itoa(r.Intn(4))}
				if name != ".." && r.Intn(3) == 0 {
					x.is, x.link = true, strings.TrimPrefix(somePath(r), someOf(r, "/", ""))
				}
				if r.Intn(30) == 0 {
					x.e = api.ErrMissing
				}
				maze[strconv.Itoa(at)+name] = x
			}
		}
		var asked []string
		step := func(at int, name string) (int, string, bool, api.Errno) {
			key := strconv.Itoa(at) + name
			asked = append(asked, key)
			x, there := maze[key]
			if !there {
				x = maze[strconv.Itoa(at)+"a"]
			}
			next, _ := strconv.Atoi(x.next)
			return next, x.link, x.is, x.e
		}
		p, last := somePath(r), r.Intn(2) == 0
		names, wrong := Split(p)
		if wrong != api.OK {
			continue
		}
		got, e := Walk(0, p, last, step)
		first := asked
		asked = nil
		want, f := slowWalk(0, names, last, 0, step)
		if got != want || e != f || !slices.Equal(first, asked) {
			t.Fatalf("Walk(%q, %v): %d, %d, asked %q; want %d, %d, %q", p, last, got, e, first, want, f, asked)
		}
		if len(first) > api.MaxDepth*(api.MaxLinks+1) {
			t.Fatalf("P16.4: Walk(%q) asks %d times", p, len(first))
		}
		ends[e]++
	}
	for _, e := range []api.Errno{api.OK, api.ErrLoop, api.ErrPath, api.ErrLong, api.ErrMissing} {
		if ends[e] < 100 {
			t.Errorf("%d walks ended with %d", ends[e], e)
		}
	}
}

// P16.4 at its edge: each link brings as many names as there may be.
func TestP164Bound(t *testing.T) {
	asked := 0
	_, e := Walk(0, ladder(64), true, func(at int, name string) (int, string, bool, api.Errno) {
		asked++
		return 0, ladder(64), asked%64 == 0, api.OK
	})
	if asked != 64*9 || e != api.ErrLoop {
		t.Errorf("asked %d times, %d", asked, e)
	}
}
