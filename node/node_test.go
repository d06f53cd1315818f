package node

import (
	"bytes"
	"math"
	"math/rand"
	"strings"
	"testing"

	"shale/api"
)

// Headers that may be, one of each type.
func file() api.Node {
	return api.Node{Type: 1, Parent: 1, Name: "a", Size: 300, Mode: 420, Stamp: 5}
}

func dir() api.Node { return api.Node{Type: 2, Parent: 1, Name: "d", Mode: 493} }

func link() api.Node {
	return api.Node{Type: 3, Parent: 7, Name: "ln", Shadow: 9, Target: "/x"}
}

func with(n api.Node, set func(*api.Node)) api.Node {
	set(&n)
	return n
}

func long(n int) string { return strings.Repeat("x", n) }

func TestNameExamples(t *testing.T) {
	for _, s := range []string{"", ".", "..", "/", "a/b", "/a", "a/", "\x00", "a\x00b", "a\x00", long(64), long(65), long(100000), long(63) + "/", "./", "../"} {
		if e := Name(s); e != api.ErrName {
			t.Errorf("Name(%q) = %d, want ErrName", s, e)
		}
	}
	for _, s := range []string{"...", "....", " ", "\xff", "a", ".a", "a.", "..a", "a..", ". ", long(62), long(63), strings.Repeat("é", 31), strings.Repeat(".", 63), "\xc0\xaf", "\\", "a\nb"} {
		if e := Name(s); e != api.OK {
			t.Errorf("Name(%q) = %d, want OK", s, e)
		}
	}
}

func TestNameEachByteEverywhere(t *testing.T) {
	for x := range 256 {
		want := api.OK
		if x == 0 || x == 47 {
			want = api.ErrName
		}
		for at := range 63 {
			b := []byte(long(63))
			b[at] = byte(x)
			if e := Name(string(b)); e != want {
				t.Errorf("Name with the byte %02x at %d = %d, want %d", x, at, e, want)
			}
		}
		if alone := string([]byte{byte(x)}); x != '.' && Name(alone) != want {
			t.Errorf("Name(%q) = %d, want %d", alone, Name(alone), want)
		}
	}
}

// wrong is a header that may not be, by one thing that is wrong in it.
type wrong struct {
	what string
	n    api.Node
	want api.Errno
}

func wrongs() []wrong {
	var list []wrong
	add := func(what string, want api.Errno, n api.Node) { list = append(list, wrong{what, n, want}) }
	for _, v := range []int{0, 4, 5, -1, 257, math.MinInt, math.MaxInt} {
		add("Type", api.ErrNode, with(file(), func(n *api.Node) { n.Type = v }))
	}
	for _, each := range []api.Node{file(), dir(), link()} {
		for _, v := range []int{-1, 1 << 20, math.MinInt, math.MaxInt} {
			add("Parent", api.ErrNode, with(each, func(n *api.Node) { n.Parent = v }))
			add("Shadow", api.ErrNode, with(each, func(n *api.Node) { n.Shadow = v }))
		}
		add("the root as Shadow", api.ErrNode, with(each, func(n *api.Node) { n.Shadow = 1 }))
		for _, v := range []int{-1, 4096, math.MinInt, math.MaxInt} {
			add("Mode", api.ErrNode, with(each, func(n *api.Node) { n.Mode = v }))
		}
		for _, s := range []string{"", ".", "..", "a/b", "a\x00", long(64)} {
			add("Name", api.ErrName, with(each, func(n *api.Node) { n.Name = s }))
		}
	}
	for _, v := range []int{-1, 1<<31 + 1, 1 << 32, math.MinInt, math.MaxInt} {
		add("a file's Size", api.ErrNode, with(file(), func(n *api.Node) { n.Size = v }))
	}
	for _, v := range []int{-1, 1, 1 << 31, 1 << 32, math.MinInt} {
		add("a directory's Size", api.ErrNode, with(dir(), func(n *api.Node) { n.Size = v }))
		add("a link's Size", api.ErrNode, with(link(), func(n *api.Node) { n.Size = v }))
	}
	for _, s := range []string{"", "\x00", "a\x00b", long(128), long(126) + "\x00", long(100000)} {
		add("a link's Target", api.ErrTarget, with(link(), func(n *api.Node) { n.Target = s }))
	}
	for _, s := range []string{"x", "\x00", long(127)} {
		add("a file's Target", api.ErrTarget, with(file(), func(n *api.Node) { n.Target = s }))
		add("a directory's Target", api.ErrTarget, with(dir(), func(n *api.Node) { n.Target = s }))
	}
	return list
}

func TestCheckRefuses(t *testing.T) {
	for _, c := range wrongs() {
		if e := Check(c.n); e != c.want {
			t.Errorf("%s: Check(%v) = %d, want %d", c.what, c.n, e, c.want)
		}
		if b, e := Pack(c.n); b != nil || e != c.want {
			t.Errorf("%s: Pack(%v) = % x, %d, want %d", c.what, c.n, b, e, c.want)
		}
	}
}

func rights() []api.Node {
	var list []api.Node
	for _, each := range []api.Node{file(), dir(), link()} {
		for _, v := range []int{0, 1, 2, 1<<20 - 1} {
			list = append(list, with(each, func(n *api.Node) { n.Parent = v }))
		}
		for _, v := range []int{0, 2, 3, 1<<20 - 1} {
			list = append(list, with(each, func(n *api.Node) { n.Shadow = v }))
		}
		for _, v := range []int{0, 1, 4095} {
			list = append(list, with(each, func(n *api.Node) { n.Mode = v }))
		}
		for _, v := range []uint64{0, 1, 1 << 32, math.MaxUint64} {
			list = append(list, with(each, func(n *api.Node) { n.Stamp = v }))
		}
		for _, s := range []string{"\xff", "...", long(63), " "} {
			list = append(list, with(each, func(n *api.Node) { n.Name = s }))
		}
	}
	for _, v := range []int{0, 1, 255, 256, 1<<31 - 1, 1 << 31} {
		list = append(list, with(file(), func(n *api.Node) { n.Size = v }))
	}
	for _, s := range []string{"/", ".", "..", "a", "\xff\xfe", long(127), "//a/../b"} {
		list = append(list, with(link(), func(n *api.Node) { n.Target = s }))
	}
	return list
}

func TestCheckLetsPass(t *testing.T) {
	for _, n := range rights() {
		if e := Check(n); e != api.OK {
			t.Errorf("Check(%v) = %d, want OK", n, e)
		}
	}
}

func TestCheckOrderOfErrors(t *testing.T) {
	all := api.Node{Type: 4, Parent: -1, Name: "", Size: -1, Mode: -1, Shadow: 1, Target: "\x00"}
	mend := []struct {
		what string
		set  func(*api.Node)
		want api.Errno // of what is left
	}{
		{"nothing", func(n *api.Node) {}, api.ErrNode},
		{"Type", func(n *api.Node) { n.Type = 3 }, api.ErrNode},
		{"Parent", func(n *api.Node) { n.Parent = 0 }, api.ErrName},
		{"Name", func(n *api.Node) { n.Name = "a" }, api.ErrNode},
		{"Size", func(n *api.Node) { n.Size = 0 }, api.ErrNode},
		{"Mode", func(n *api.Node) { n.Mode = 0 }, api.ErrNode},
		{"Shadow", func(n *api.Node) { n.Shadow = 0 }, api.ErrTarget},
		{"Target", func(n *api.Node) { n.Target = "x" }, api.OK},
	}
	for _, m := range mend {
		m.set(&all)
		if e := Check(all); e != m.want {
			t.Errorf("mended up to %s: Check(%v) = %d, want %d", m.what, all, e, m.want)
		}
	}
	for _, c := range []struct {
		n    api.Node
		want api.Errno
	}{
		{api.Node{Type: 4}, api.ErrNode},
		{api.Node{}, api.ErrNode},
		{api.Node{Type: 2, Parent: -1}, api.ErrNode},
		{api.Node{Type: 2, Parent: 1, Size: 5}, api.ErrName},
		{api.Node{Type: 2, Parent: 1, Name: "d", Size: 5}, api.ErrNode},
		{api.Node{Type: 2, Parent: 1, Name: "d", Target: "x"}, api.ErrTarget},
		{api.Node{Type: 3, Parent: 1, Name: "l"}, api.ErrTarget},
		{api.Node{Type: 1, Parent: 0, Name: "f", Shadow: 1}, api.ErrNode},
		{api.Node{Type: 1, Name: "f", Mode: 4096, Target: "x"}, api.ErrNode},
		{api.Node{Type: 1, Name: "..", Mode: 4096}, api.ErrName},
	} {
		if e := Check(c.n); e != c.want {
			t.Errorf("Check(%v) = %d, want %d", c.n, e, c.want)
		}
	}
}

// slowMayBe follows the chapter's words.
func slowMayBe(n api.Node) bool {
	name := len(n.Name) >= 1 && len(n.Name) <= 63 && n.Name != "." && n.Name != ".."
	for _, x := range []byte(n.Name) {
		name = name && x != 0 && x != 47
	}
	target := n.Type != 3 && len(n.Target) == 0 || n.Type == 3 && len(n.Target) >= 1 && len(n.Target) <= 127
	for _, x := range []byte(n.Target) {
		target = target && x != 0
	}
	size := n.Type == 1 && n.Size >= 0 && n.Size <= 1<<31 || n.Size == 0
	return n.Type >= 1 && n.Type <= 3 && n.Parent >= 0 && n.Parent < 1<<20 && name && size &&
		n.Mode >= 0 && n.Mode <= 4095 && (n.Shadow == 0 || n.Shadow >= 2 && n.Shadow < 1<<20) && target
}

// slowPack follows the chapter's words, a byte at a time.
func slowPack(n api.Node) []byte {
	var b []byte
	number := func(v uint64, size int) {
		for range size {
			b, v = append(b, byte(v%256)), v/256
		}
	}
	number(uint64(n.Type), 1)
	number(uint64(n.Parent), 4)
	number(uint64(n.Size), 4)
	number(uint64(n.Mode), 2)
	number(n.Stamp, 8)
	number(uint64(n.Shadow), 4)
	number(uint64(len(n.Name)), 1)
	b = append(b, n.Name...)
	number(uint64(len(n.Target)), 1)
	return append(b, n.Target...)
}

// someText tells n bytes that may stand in a name.
func someText(r *rand.Rand, n int) string {
	b := make([]byte, n)
	for i := range b {
		for b[i] == 0 || b[i] == '/' || b[i] == '.' {
			b[i] = byte(r.Intn(256))
		}
	}
	return string(b)
}

func someNode(r *rand.Rand) api.Node {
	n := api.Node{Type: 1 + r.Intn(3), Parent: r.Intn(1 << 20), Name: someText(r, 1+r.Intn(63)), Mode: r.Intn(4096), Stamp: r.Uint64()}
	if r.Intn(2) == 0 {
		n.Shadow = 2 + r.Intn(1<<20-2)
	}
	if n.Type == 1 {
		n.Size = r.Intn(1<<31 + 1)
	}
	if n.Type == 3 {
		n.Target = someText(r, 1+r.Intn(127))
	}
	return n
}

func TestPackExamples(t *testing.T) {
	for _, c := range []struct {
		n    api.Node
		want []byte
	}{
		{file(), []byte{1, 1, 0, 0, 0, 0x2C, 1, 0, 0, 0xA4, 1, 5, 0, 0, 0, 0, 0, 0, 0, 0, 0, 0, 0, 1, 0x61, 0}},
		{link(), []byte{3, 7, 0, 0, 0, 0, 0, 0, 0, 0, 0, 0, 0, 0, 0, 0, 0, 0, 0, 9, 0, 0, 0, 2, 0x6C, 0x6E, 2, 0x2F, 0x78}},
	} {
		if b, e := Pack(c.n); !bytes.Equal(b, c.want) || e != api.OK {
			t.Errorf("Pack(%v) = % x, %d, want % x", c.n, b, e, c.want)
		}
		if n, e := Read(c.want); n != c.n || e != api.OK {
			t.Errorf("Read(% x) = %v, %d, want %v", c.want, n, e, c.n)
		}
	}
}

func TestPackLengths(t *testing.T) {
	shortest := api.Node{Type: 2, Name: "d"}
	longest := api.Node{Type: 3, Name: long(63), Target: long(127)}
	for n, want := range map[api.Node]int{shortest: 26, longest: 215} {
		if b, e := Pack(n); len(b) != want || e != api.OK {
			t.Errorf("Pack(%v): %d bytes, %d, want %d", n, len(b), e, want)
		}
	}
}

func TestP81ThereAndBack(t *testing.T) {
	list := rights()
	r := rand.New(rand.NewSource(1))
	for range 3000 {
		list = append(list, someNode(r))
	}
	for _, n := range list {
		b, e := Pack(n)
		if !bytes.Equal(b, slowPack(n)) || e != api.OK {
			t.Fatalf("Pack(%v) = % x, %d, want % x", n, b, e, slowPack(n))
		}
		if got, e := Read(b); got != n || e != api.OK {
			t.Fatalf("Read(% x) = %v, %d, want %v", b, got, e, n)
		}
	}
}

func readRefused(t *testing.T, b []byte, want api.Errno, what string) {
	t.Helper()
	if n, e := Read(b); n != (api.Node{}) || e != want {
		t.Fatalf("%s: Read(% x) = %v, %d, want the error %d alone", what, b, n, e, want)
	}
}

// What may not be is refused with the error that Check has for it, if its bytes can be told at all.
func TestReadAnswersWhatCheckAnswers(t *testing.T) {
	n := 0
	for _, c := range wrongs() {
		if fitsBytes(c.n) {
			readRefused(t, slowPack(c.n), Check(c.n), c.what)
			n++
		}
	}
	if n < 40 {
		t.Errorf("only %d headers fit their bytes: nothing is shown", n)
	}
	readRefused(t, slowPack(api.Node{Type: 2, Parent: 1 << 20, Name: "", Target: "x"}), api.ErrNode, "Parent ahead of Name")
	readRefused(t, slowPack(api.Node{Type: 2, Name: "", Mode: 4096, Target: "x"}), api.ErrName, "Name ahead of Mode")
	readRefused(t, slowPack(api.Node{Type: 2, Name: "d", Mode: 4096, Target: "x"}), api.ErrNode, "Mode ahead of Target")
}

func fitsBytes(n api.Node) bool {
	within := func(v int, size int) bool { return v >= 0 && v < 1<<(8*size) }
	return within(n.Type, 1) && within(n.Parent, 4) && within(n.Size, 4) && within(n.Mode, 2) && within(n.Shadow, 4) &&
		within(len(n.Name), 1) && within(len(n.Target), 1)
}

func TestP82EachRowIsOneHeader(t *testing.T) {
	r := rand.New(rand.NewSource(2))
	read, refused := 0, 0
	for range 60000 {
		b := slowPack(someNode(r))
		for range 1 + r.Intn(2) {
			b[r.Intn(len(b))] ^= 1 << r.Intn(8)
		}
		n, e := Read(b)
		if e != api.OK {
			refused++
			if n != (api.Node{}) {
				t.Fatalf("Read(% x) = %v beside %d", b, n, e)
			}
			continue
		}
		read++
		if got, e := Pack(n); !bytes.Equal(got, b) || e != api.OK {
			t.Fatalf("Pack of Read(% x) = % x, %d", b, got, e)
		}
		if !slowMayBe(n) {
			t.Fatalf("Read(% x) = %v, which may not be", b, n)
		}
	}
	if read < 1000 || refused < 1000 {
		t.Errorf("%d rows were read, %d refused: nothing is shown", read, refused)
	}
}

func TestCheckHeldAgainstTheWords(t *testing.T) {
	r := rand.New(rand.NewSource(3))
	texts := []string{"", ".", "..", "a", "a/", "\x00", "...", long(63), long(64), long(127), long(128)}
	of := func(list ...int) int { return list[r.Intn(len(list))] }
	for range 200000 {
		n := api.Node{
			Type: of(0, 1, 1, 2, 2, 3, 3, 4), Parent: of(0, 1, 1<<20-1, 1<<20, -1), Name: texts[3], Size: of(0, 0, 0, 1, 1<<31, 1<<31+1, -1),
			Mode: of(0, 4095, 4096, -1), Shadow: of(0, 0, 1, 2, 1<<20-1, 1<<20), Target: "",
		}
		if r.Intn(2) == 0 {
			n.Name = texts[r.Intn(len(texts))]
		}
		if n.Type == 3 || r.Intn(4) == 0 {
			n.Target = texts[r.Intn(len(texts))]
		}
		if e := Check(n); (e == api.OK) != slowMayBe(n) {
			t.Fatalf("Check(%v) = %d", n, e)
		}
	}
}

func TestP83RowsThatAreCutOrLonger(t *testing.T) {
	list := rights()
	r := rand.New(rand.NewSource(4))
	for range 100 {
		list = append(list, someNode(r))
	}
	for _, n := range list {
		b := slowPack(n)
		for size := range b {
			readRefused(t, b[:size:size], api.ErrNode, "a row that is cut")
			readRefused(t, b[:size], api.ErrNode, "a row that is cut, the rest in its spare room")
		}
		for x := range 256 {
			readRefused(t, append(b[:len(b):len(b)], byte(x)), api.ErrNode, "a row with a byte more")
		}
		readRefused(t, append(b[:len(b):len(b)], b...), api.ErrNode, "a row twice")
	}
	readRefused(t, nil, api.ErrNode, "nil")
	readRefused(t, []byte{}, api.ErrNode, "no bytes")
}

// The row's length is asked ahead of what stands in it.
func TestReadLengthAheadOfCheck(t *testing.T) {
	b := slowPack(api.Node{Type: 1, Name: ""})
	readRefused(t, b, api.ErrName, "no name")
	readRefused(t, append(b, 0), api.ErrNode, "no name, and a byte more")
	readRefused(t, b[:len(b)-1], api.ErrNode, "no name, and a byte less")
	for _, count := range []byte{0, 2, 63, 64, 127, 255} {
		b := slowPack(file())
		b[23] = count
		readRefused(t, b, api.ErrNode, "a count of Name that does not fit")
		b = slowPack(link())
		b[len(b)-3] = count + 1
		readRefused(t, b, api.ErrNode, "a count of Target that does not fit")
	}
	readRefused(t, bytes.Repeat([]byte{255}, 23), api.ErrNode, "numbers alone")
	readRefused(t, bytes.Repeat([]byte{255}, 5000), api.ErrNode, "bytes 255")
}

func TestR1AnyBytes(t *testing.T) {
	r := rand.New(rand.NewSource(5))
	for range 20000 {
		b := make([]byte, r.Intn(300))
		r.Read(b)
		n, e := Read(b)
		if e == api.OK && !bytes.Equal(slowPack(n), b) {
			t.Fatalf("Read(% x) = %v", b, n)
		}
	}
}

func TestR4NewMemory(t *testing.T) {
	n := link()
	b, _ := Pack(n)
	for i := range b {
		b[i] ^= 255
	}
	_ = append(b, 1, 2, 3)
	if again, _ := Pack(n); !bytes.Equal(again, slowPack(link())) {
		t.Errorf("Pack behind a writing into its answer: % x", again)
	}
	room := append(slowPack(link()), 7, 7, 7)
	before := bytes.Clone(room)
	got, _ := Read(room[:len(room)-3])
	if !bytes.Equal(room, before) {
		t.Errorf("Read changed what was handed in: % x", room)
	}
	clear(room)
	if got != link() {
		t.Errorf("Read keeps what was handed in: %v", got)
	}
}
