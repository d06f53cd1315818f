package path

import (
	"math/rand"
	"slices"
	"strings"
	"testing"

	"shale/api"
)

func letters(n int) string { return strings.Repeat("x", n) }

// ladder is a path of so many names of one letter.
func ladder(n int) string { return strings.Repeat("/x", n) }

// longest is a path of MaxPath bytes: 15 names of 63 letters and one of 62.
func longest() string { return strings.Repeat("/"+letters(63), 15) + "/" + letters(62) }

func TestSplit(t *testing.T) {
	for _, c := range []struct {
		path string
		want []string
	}{
		{"/a//b/./c/", []string{"a", "b", "c"}},
		{"/", nil}, {"/./", nil}, {"/.", nil}, {"//././/", nil},
		{"/../a", []string{"..", "a"}}, {"/..", []string{".."}}, {"/a/../..", []string{"a", "..", ".."}},
		{"/...", []string{"..."}}, {"/.a/b.", []string{".a", "b."}}, {"/ / ", []string{" ", " "}}, {"/\xff\x01\n", []string{"\xff\x01\n"}},
		{"/" + letters(63), []string{letters(63)}},
		{ladder(64), slices.Repeat([]string{"x"}, 64)},
		{ladder(64) + "/././//", slices.Repeat([]string{"x"}, 64)},
		{strings.Repeat("/", 1023), nil},
		{strings.Repeat("/.", 511) + "/", nil},
		{longest(), append(slices.Repeat([]string{letters(63)}, 15), letters(62))},
	} {
		if got, e := Split(c.path); !slices.Equal(got, c.want) || e != api.OK {
			t.Errorf("Split(%.40q): %q, %d, want %q", c.path, got, e, c.want)
		}
	}
}

// wrongPaths has paths that may not be, with their errors, which all calls have in common.
func wrongPaths() map[string]api.Errno {
	return map[string]api.Errno{
		"": api.ErrPath, "a": api.ErrPath, "a/b": api.ErrPath, " /a": api.ErrPath, ".": api.ErrPath, "..": api.ErrPath,
		"/a\x00": api.ErrPath, "/\x00": api.ErrPath, "\x00": api.ErrPath, "/a/\x00/b": api.ErrPath,
		letters(2000):                        api.ErrPath, // ahead of ErrLong
		strings.Repeat("/", 1023) + "\x00":   api.ErrPath,
		ladder(65) + "\x00":                  api.ErrPath,
		"/" + letters(64) + "/\x00":          api.ErrPath,
		strings.Repeat("/", 1024):            api.ErrLong,
		longest() + "/":                      api.ErrLong,
		longest() + "x":                      api.ErrLong,
		ladder(65):                           api.ErrLong,
		strings.Repeat("/..", 65):            api.ErrLong,
		"/" + letters(64):                    api.ErrLong,
		"/a/" + letters(64) + "/..":          api.ErrLong,
		"/" + strings.Repeat("a/", 100):      api.ErrLong,
		"/" + strings.Repeat(".", 64) + "/a": api.ErrLong,
	}
}

func TestWrongPaths(t *testing.T) {
	for p, want := range wrongPaths() {
		if names, e := Split(p); len(names) != 0 || e != want {
			t.Errorf("Split(%.40q): %q, %d, want %d", p, names, e, want)
		}
		if s, e := Clean(p); s != "" || e != want {
			t.Errorf("Clean(%.40q): %q, %d, want %d", p, s, e, want)
		}
		if names, name, e := Parent(p); len(names) != 0 || name != "" || e != want {
			t.Errorf("Parent(%.40q): %q, %q, %d, want %d", p, names, name, e, want)
		}
		if is, e := Within(p, "/a/.."); is || e != want {
			t.Errorf("Within(%.40q, /a/..): %v, %d, want %d", p, is, e, want)
		}
		if is, e := Within("/a/..", p); is || e != want {
			t.Errorf("Within(/a/.., %.40q): %v, %d, want %d", p, is, e, want)
		}
	}
}

func TestJoin(t *testing.T) {
	for _, c := range []struct {
		names []string
		want  string
		e     api.Errno
	}{
		{nil, "/", api.OK}, {[]string{}, "/", api.OK},
		{[]string{"a"}, "/a", api.OK}, {[]string{"a", "b"}, "/a/b", api.OK},
		{[]string{"..", "x"}, "/../x", api.OK}, {[]string{"a", "..", ".."}, "/a/../..", api.OK},
		{[]string{"...", " ", "\xff"}, "/.../ /\xff", api.OK},
		{[]string{letters(63)}, "/" + letters(63), api.OK},
		{slices.Repeat([]string{"x"}, 64), ladder(64), api.OK},
		{append(slices.Repeat([]string{letters(63)}, 15), letters(62)), longest(), api.OK},

		{[]string{"a/b"}, "", api.ErrName}, {[]string{"/"}, "", api.ErrName}, {[]string{""}, "", api.ErrName}, {[]string{"."}, "", api.ErrName},
		{[]string{"a", "\x00"}, "", api.ErrName}, {[]string{"a", "b\x00c", "d"}, "", api.ErrName},
		{[]string{letters(64)}, "", api.ErrName},
		{append(slices.Repeat([]string{"x"}, 65), "."), "", api.ErrName}, // ahead of ErrLong
		{append(slices.Repeat([]string{letters(63)}, 16), ""), "", api.ErrName},

		{slices.Repeat([]string{"x"}, 65), "", api.ErrLong},
		{slices.Repeat([]string{".."}, 65), "", api.ErrLong},
		{slices.Repeat([]string{letters(63)}, 16), "", api.ErrLong}, // 1024 bytes
		{slices.Repeat([]string{letters(63)}, 64), "", api.ErrLong},
	} {
		if got, e := Join(c.names...); got != c.want || e != c.e {
			t.Errorf("Join(%.40q): %.40q, %d, want %.40q, %d", c.names, got, e, c.want, c.e)
		}
	}
}

func TestClean(t *testing.T) {
	for p, want := range map[string]string{
		"/": "/", "//./": "/", "/a": "/a", "//a//": "/a", "/./a/./b/.": "/a/b",
		"//a/./../b/": "/a/../b", "/../../a/..": "/a/..", "/..": "/", "/../..": "/", "/.././../a": "/a", "/a/../../b": "/a/../../b",
		strings.Repeat("/..", 64):        "/",
		strings.Repeat("/..", 63) + "/x": "/x",
		longest():                        longest(),
	} {
		if got, e := Clean(p); got != want || e != api.OK {
			t.Errorf("Clean(%.40q): %.40q, %d, want %.40q", p, got, e, want)
		}
	}
}

func TestParent(t *testing.T) {
	for _, c := range []struct {
		path  string
		front []string
		name  string
		e     api.Errno
	}{
		{"/a/b/", []string{"a"}, "b", api.OK}, {"/a", nil, "a", api.OK}, {"/a/.", nil, "a", api.OK},
		{"/../a", []string{".."}, "a", api.OK}, {"/a/../b//", []string{"a", ".."}, "b", api.OK},
		{ladder(64), slices.Repeat([]string{"x"}, 63), "x", api.OK},
		{"/", nil, "", api.ErrPath}, {"/.", nil, "", api.ErrPath}, {"/..", nil, "", api.ErrPath}, {"/a/..", nil, "", api.ErrPath}, {"/a/.././/", nil, "", api.ErrPath},
	} {
		if front, name, e := Parent(c.path); !slices.Equal(front, c.front) || name != c.name || e != c.e {
			t.Errorf("Parent(%.40q): %q, %q, %d, want %q, %q, %d", c.path, front, name, e, c.front, c.name, c.e)
		}
	}
}

func TestWithin(t *testing.T) {
	for _, c := range []struct {
		path, above string
		want        bool
		e           api.Errno
	}{
		{"/a/b", "/a", true, api.OK}, {"/a/b/c", "/a//b/.", true, api.OK}, {"/a", "/a/", true, api.OK}, {"/", "/", true, api.OK}, {"/a", "/", true, api.OK},
		{"/../a/b", "/../../a", true, api.OK}, {"/..", "/..", true, api.OK}, {"/a", "/..", true, api.OK},
		{"/ab", "/a", false, api.OK}, {"/a", "/ab", false, api.OK}, {"/a", "/a/b", false, api.OK}, {"/", "/a", false, api.OK}, {"/b/a", "/a", false, api.OK}, {"/A", "/a", false, api.OK},
		{ladder(64), ladder(63), true, api.OK}, {ladder(63), ladder(64), false, api.OK},
		{"/a/..", "/", false, api.ErrPath}, {"/", "/a/..", false, api.ErrPath}, {"/a/../b", "/c", false, api.ErrPath}, {"/../a/..", "/../a/..", false, api.ErrPath},
		{"a", ladder(65), false, api.ErrPath}, {ladder(65), "a", false, api.ErrLong}, {"/a/..", ladder(65), false, api.ErrLong}, {"/", "", false, api.ErrPath},
	} {
		if is, e := Within(c.path, c.above); is != c.want || e != c.e {
			t.Errorf("Within(%.40q, %.40q): %v, %d, want %v, %d", c.path, c.above, is, e, c.want, c.e)
		}
	}
}

func someOf[T any](r *rand.Rand, list ...T) T { return list[r.Intn(len(list))] }

// someNames picks names of which many are alike, `.` among them.
func someNames(r *rand.Rand) []string {
	names := make([]string, r.Intn(7))
	if r.Intn(20) == 0 {
		names = make([]string, 60+r.Intn(7))
	}
	for i := range names {
		names[i] = someOf(r, "a", "a", "b", "ab", "..", "..", "\xff", " ", letters(r.Intn(63)+1), ".")
	}
	return names
}

// somePath picks a path, with parts that are let go, and now and then one that may not be.
func somePath(r *rand.Rand) string {
	p := strings.Repeat("/..", r.Intn(3))
	for _, n := range someNames(r) {
		p += someOf(r, "/", "/", "//", "/./") + n
	}
	return p + someOf(r, "/", "", "/.", "", "/", "/a", "\x00"+p, "/"+letters(64))
}

// P16.1: Split of Join of names is these names.
func TestP161SplitOfJoin(t *testing.T) {
	r := rand.New(rand.NewSource(1))
	taken := 0
	for range 20000 {
		names := slices.DeleteFunc(someNames(r), func(n string) bool { return n == "." })
		p, e := Join(names...)
		if e == api.ErrLong && (len(names) > 64 || len(strings.Join(names, "/")) > 1022) {
			continue
		}
		got, f := Split(p)
		if e != api.OK || f != api.OK || !slices.Equal(got, names) {
			t.Fatalf("%q: %q, %d; split %q, %d", names, p, e, got, f)
		}
		taken++
	}
	if taken < 15000 {
		t.Errorf("%d rows of names were taken", taken)
	}
}

// P16.2: Clean of Clean is Clean; the names are the same but for `..` ahead.
func TestP162CleanOfClean(t *testing.T) {
	r := rand.New(rand.NewSource(2))
	taken := 0
	for range 20000 {
		p := somePath(r)
		clean, e := Clean(p)
		names, f := Split(p)
		if e != f {
			t.Fatalf("%q: Clean answers %d, Split %d", p, e, f)
		}
		if e != api.OK {
			continue
		}
		again, e := Clean(clean)
		if again != clean || e != api.OK {
			t.Fatalf("%q: clean %q, again %q, %d", p, clean, again, e)
		}
		for len(names) > 0 && names[0] == ".." {
			names = names[1:]
		}
		if got, e := Split(clean); !slices.Equal(got, names) || e != api.OK {
			t.Fatalf("%q: clean it has %q, %d, want %q", p, got, e, names)
		}
		if want := "/" + strings.Join(names, "/"); clean != want {
			t.Fatalf("Clean(%q): %q, want %q", p, clean, want)
		}
		taken++
	}
	if taken < 10000 {
		t.Errorf("%d paths were taken", taken)
	}
}

// P16.3: Within is an order.
func TestP163WithinIsAnOrder(t *testing.T) {
	r := rand.New(rand.NewSource(3))
	pick := func() string {
		p := ""
		for range r.Intn(4) {
			p += someOf(r, "/", "//", "/./") + someOf(r, "a", "a", "b", "ab")
		}
		return someOf(r, "/..", "") + p + someOf(r, "/", "/.", "//")
	}
	is := func(p, q string) bool {
		t.Helper()
		yes, e := Within(p, q)
		if e != api.OK {
			t.Fatalf("Within(%q, %q): %d", p, q, e)
		}
		return yes
	}
	both, on := 0, 0
	for range 30000 {
		p, q, s := pick(), pick(), pick()
		if !is(p, p) || !is(p, "/") {
			t.Fatalf("%q is not within itself, or not within /", p)
		}
		cp, cq := cleanOf(p), cleanOf(q)
		if is(p, q) && is(q, p) != (cp == cq) {
			t.Fatalf("%q and %q are within one another, and are %q, %q", p, q, cp, cq)
		}
		if is(p, q) && is(q, s) && !is(p, s) {
			t.Fatalf("%q is within %q, that within %q, and the first not within the last", p, q, s)
		}
		if is(p, q) != (cq == "/" || strings.HasPrefix(cp+"/", cq+"/")) {
			t.Fatalf("Within(%q, %q) is %v", p, q, is(p, q))
		}
		if is(p, q) && is(q, p) && p != q {
			both++
		}
		if is(p, q) && is(q, s) && cp != cq && cq != cleanOf(s) {
			on++
		}
	}
	if both < 500 || on < 100 {
		t.Errorf("%d pairs within one another, %d rows of three", both, on)
	}
}

func cleanOf(p string) string {
	s, _ := Clean(p)
	return s
}

// R4: what is handed in is not changed, what is answered is its own.
func TestAnswersAreNew(t *testing.T) {
	names := []string{"a", "b", "c", "rest"}
	if _, e := Join(names[:3]...); e != api.OK || !slices.Equal(names, []string{"a", "b", "c", "rest"}) {
		t.Errorf("Join changes what is handed in: %q, %d", names, e)
	}
	one, _ := Split("/a/./b")
	two, _ := Split("/a/./b")
	_ = append(one, "z")
	one[0] = "y"
	if !slices.Equal(two, []string{"a", "b"}) {
		t.Errorf("two answers share memory: %q", two)
	}
	front, name, _ := Parent("/a/b")
	_ = append(front, "z")
	if name != "b" {
		t.Errorf("the name becomes %q", name)
	}
}
