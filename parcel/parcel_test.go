package parcel

import (
	"bytes"
	"math"
	"math/rand"
	"slices"
	"strings"
	"testing"

	"shale/api"
)

// The chapter's rows.
func TestPackExamples(t *testing.T) {
	want := sealed([]byte("PRCL\x01"), []byte{237, 1}, make([]byte, 8),
		[]byte{0, 1, 164, 1, 5}, make([]byte, 7), []byte{1, 97, 2, 0, 0, 0, 1, 2, 0, 0, 0, 104, 105},
		[]byte{0, 2, 237, 1}, make([]byte, 8), []byte{1, 100},
		[]byte{1, 3, 0, 0}, make([]byte, 8), []byte{1, 108, 4, 46, 46, 47, 97}, []byte{255})
	if b, e := Pack(example()); e != api.OK || !bytes.Equal(b, want) {
		t.Errorf("Pack of T: % d, %d, want % d", b, e, want)
	}
	if tree, e := Read(want); e != api.OK || !sameTree(tree, example()) {
		t.Errorf("Read: %v, %d", tree, e)
	}
	if b, e := Pack([]api.Leaf{dir("/")}); e != api.OK || !bytes.Equal(b, sealed([]byte("PRCL\x01"), []byte{237, 1}, make([]byte, 8), []byte{255})) {
		t.Errorf("Pack of the root: % d, %d", b, e)
	}
}

// A tree that is none, and then leaves that may not be.
func TestPackRefuses(t *testing.T) {
	changed := func(n int, change func(*api.Leaf)) []api.Leaf {
		tree := example()
		change(&tree[n])
		return tree
	}
	without := func(n int) []api.Leaf { return slices.Delete(example(), n, n+1) }
	swapped := func(a, b int) []api.Leaf {
		tree := example()
		tree[a], tree[b] = tree[b], tree[a]
		return tree
	}
	with := func(list ...api.Leaf) []api.Leaf { return append([]api.Leaf{dir("/")}, list...) }
	deep := func(n int) (list []api.Leaf) {
		for k := range n {
			list = append(list, dir(strings.Repeat("/d", k+1)))
		}
		return list
	}
	name := func(n int) string { return "/" + strings.Repeat("n", n) }
	long := []api.Leaf{} // a path of 16 names: 15 of 63 bytes and their slashes, then the last one's
	for k := range 15 {
		long = append(long, dir(strings.Repeat(name(63), k+1)))
	}
	longPath := func(n int) []api.Leaf { return append(slices.Clone(long), dir(strings.Repeat(name(63), 15)+name(n))) }
	for what, x := range map[string]struct {
		tree []api.Leaf
		want api.Errno
	}{
		"nothing":                        {nil, api.ErrParcel},
		"an empty one":                   {[]api.Leaf{}, api.ErrParcel},
		"without the first":              {without(0), api.ErrParcel},
		"a file first":                   {changed(0, func(l *api.Leaf) { l.Type = api.TypeFile }), api.ErrParcel},
		"a link first":                   {changed(0, func(l *api.Leaf) { l.Type, l.Target = api.TypeLink, "x" }), api.ErrParcel},
		"no type first":                  {changed(0, func(l *api.Leaf) { l.Type = 0 }), api.ErrParcel},
		"another path first":             {changed(0, func(l *api.Leaf) { l.Path = "/x" }), api.ErrParcel},
		"no path first":                  {changed(0, func(l *api.Leaf) { l.Path = "" }), api.ErrParcel},
		"two slashes first":              {changed(0, func(l *api.Leaf) { l.Path = "//" }), api.ErrParcel},
		"a dot first":                    {changed(0, func(l *api.Leaf) { l.Path = "/." }), api.ErrParcel},
		"a file first, and a wrong leaf": {append([]api.Leaf{file("/")}, file("x")), api.ErrParcel},
		"a first mode of -1":             {changed(0, func(l *api.Leaf) { l.Mode = -1 }), api.ErrPiece},
		"a first mode of 4096":           {changed(0, func(l *api.Leaf) { l.Mode = 4096 }), api.ErrPiece},
		"a first mode of 4095":           {changed(0, func(l *api.Leaf) { l.Mode = 4095 }), api.OK},
		"data first":                     {changed(0, func(l *api.Leaf) { l.Data = []byte{0} }), api.ErrPiece},
		"a target first":                 {changed(0, func(l *api.Leaf) { l.Target = "x" }), api.ErrPiece},
		"/d and /a changed about":        {swapped(1, 2), api.ErrPiece},
		"/d and /d/l changed about":      {swapped(2, 3), api.ErrPiece},
		"without /d":                     {without(2), api.ErrPiece},
		"/a twice":                       {slices.Insert(example(), 1, example()[1]), api.ErrPiece},
		"/d/l twice":                     {append(example(), example()[3]), api.ErrPiece},
		"the root twice":                 {with(dir("/")), api.ErrPiece},
		"the root at the end":            {append(example(), dir("/")), api.ErrPiece},
		"/d as a file":                   {changed(2, func(l *api.Leaf) { l.Type = api.TypeFile }), api.ErrPiece},
		"/d as a link":                   {changed(2, func(l *api.Leaf) { l.Type, l.Target = api.TypeLink, "a" }), api.ErrPiece},
		"below a file":                   {with(file("/a"), file("/a/b")), api.ErrPiece},
		"below a file of before":         {with(file("/a"), dir("/b"), file("/a/b")), api.ErrPiece},
		"below what is missing":          {with(file("/a/b")), api.ErrPiece},
		"two below":                      {with(dir("/a"), file("/a/b/c")), api.ErrPiece},
		"below the one ahead's brother":  {with(dir("/a"), dir("/b"), file("/a/c")), api.ErrPiece},
		"another directory's names":      {with(dir("/a"), dir("/a/x"), file("/b/x/y")), api.ErrPiece},
		"back up to a directory":         {with(dir("/a"), dir("/a/b"), file("/a/b/c"), file("/a/c"), file("/b")), api.OK},
		"back up, too early a name":      {with(dir("/a"), dir("/a/b"), file("/a/b/c"), file("/a/a")), api.ErrPiece},
		"back up, the same name":         {with(dir("/a"), dir("/a/b"), file("/a/b/c"), file("/a/b")), api.ErrPiece},
		"back up, the directory again":   {with(dir("/a"), dir("/a/b"), dir("/a")), api.ErrPiece},
		"/a, /a/c, /a!":                  {with(dir("/a"), file("/a/c"), file("/a!")), api.OK},
		"/a, /a!, /a/c":                  {with(dir("/a"), file("/a!"), file("/a/c")), api.ErrPiece},
		"bytes above 127":                {with(dir("/\x7f"), dir("/\x80"), dir("/\xff")), api.OK},
		"bytes above 127, falling":       {with(dir("/\x80"), dir("/\x7f")), api.ErrPiece},
		"a slash behind":                 {with(dir("/a/")), api.ErrPiece},
		"two slashes":                    {with(dir("//a")), api.ErrPiece},
		"a dot":                          {with(dir("/./a")), api.ErrPiece},
		"above":                          {with(dir("/..")), api.ErrPiece},
		"above, within":                  {with(dir("/a"), dir("/a/..")), api.ErrPiece},
		"no slash":                       {with(dir("a")), api.ErrPiece},
		"no path":                        {with(dir("")), api.ErrPiece},
		"a byte 0":                       {with(dir("/a\x00")), api.ErrPiece},
		"three dots":                     {with(dir("/...")), api.OK},
		"a name of 63":                   {with(dir(name(63))), api.OK},
		"a name of 64":                   {with(dir(name(64))), api.ErrPiece},
		"64 names":                       {with(deep(64)...), api.OK},
		"65 names":                       {with(deep(65)...), api.ErrPiece},
		"a path of 1023 bytes":           {with(longPath(62)...), api.OK},
		"a path of 1024 bytes":           {with(longPath(63)...), api.ErrPiece},
		"the type 0":                     {with(api.Leaf{Path: "/a", Type: 0}), api.ErrPiece},
		"the type 4":                     {with(api.Leaf{Path: "/a", Type: 4}), api.ErrPiece},
		"the type -1":                    {with(api.Leaf{Path: "/a", Type: -1}), api.ErrPiece},
		"a mode of 4095":                 {with(api.Leaf{Path: "/a", Type: 2, Mode: 4095}), api.OK},
		"a mode of 4096":                 {with(api.Leaf{Path: "/a", Type: 2, Mode: 4096}), api.ErrPiece},
		"a mode of -1":                   {with(api.Leaf{Path: "/a", Type: 2, Mode: -1}), api.ErrPiece},
		"the greatest stamp":             {with(api.Leaf{Path: "/a", Type: 2, Stamp: math.MaxUint64}), api.OK},
		"a directory's data":             {with(api.Leaf{Path: "/a", Type: 2, Data: []byte{0}}), api.ErrPiece},
		"a link's data":                  {with(api.Leaf{Path: "/a", Type: 3, Target: "x", Data: []byte{0}}), api.ErrPiece},
		"a directory's empty data":       {with(api.Leaf{Path: "/a", Type: 2, Data: []byte{}}), api.OK},
		"a link without a target":        {with(link("/a", "")), api.ErrPiece},
		"a target of 127":                {with(link("/a", strings.Repeat("x", 127))), api.OK},
		"a target of 128":                {with(link("/a", strings.Repeat("x", 128))), api.ErrPiece},
		"a target with a byte 0":         {with(link("/a", "x\x00")), api.ErrPiece},
		"a file with a target":           {with(api.Leaf{Path: "/a", Type: 1, Target: "x"}), api.ErrPiece},
		"a directory with a target":      {with(api.Leaf{Path: "/a", Type: 2, Target: "x"}), api.ErrPiece},
		"a wrong leaf at the end":        {append(example(), file("/z/")), api.ErrPiece},
	} {
		if e := slowTree(x.tree); e != x.want {
			t.Errorf("the model takes %s: %d, want %d", what, e, x.want)
		}
		b, e := Pack(x.tree)
		if e != x.want || e != api.OK && b != nil {
			t.Errorf("Pack of %s: %d, want %d", what, e, x.want)
		}
		if e != api.OK {
			continue
		}
		if tree, e := Read(b); e != api.OK || !sameTree(tree, x.tree) {
			t.Errorf("P18.1: Read of %s: %v, %d", what, tree, e)
		}
	}
}

// A file has at most 2^24 bytes.
func TestPackMostData(t *testing.T) {
	full := rep(1, 1<<24)
	full[100] = 0
	for what, x := range map[string]struct {
		data []byte
		size int
		want api.Errno
	}{
		"a hole of 2^24":      {make([]byte, 1<<24), 15 + 14 + 4 + 5 + 5, api.OK},
		"filled, 2^24":        {full, 15 + 14 + 4 + 5 + 1<<24 + 5, api.OK},
		"a hole of 2^24 + 1":  {make([]byte, 1<<24+1), 0, api.ErrPiece},
		"filled, of 2^24 + 1": {append(full, 1), 0, api.ErrPiece},
	} {
		b, e := Pack([]api.Leaf{dir("/"), file("/a", x.data...)})
		if e != x.want || len(b) != x.size {
			t.Errorf("Pack of %s: %d bytes, %d, want %d, %d", what, len(b), e, x.size, x.want)
		}
		if e != api.OK {
			continue
		}
		if tree, e := Read(b); e != api.OK || !bytes.Equal(tree[1].Data, x.data) {
			t.Errorf("Read of %s: %d", what, e)
		}
	}
}

// The stretches of data: how holes and what is filled follow one another.
func TestStretches(t *testing.T) {
	z := func(n int) []byte { return make([]byte, n) }
	f := func(n int) []byte { return rep(7, n) }
	for what, x := range map[string]struct {
		data []byte
		want []int // lengths, a hole's below 0
	}{
		"nothing":                      {nil, nil},
		"a byte":                       {f(1), []int{1}},
		"a byte 0":                     {z(1), []int{1}},
		"15 bytes 0":                   {z(15), []int{15}},
		"16 bytes 0":                   {z(16), []int{-16}},
		"40 bytes 0":                   {z(40), []int{-40}},
		"15 ahead":                     {slices.Concat(z(15), f(1)), []int{16}},
		"16 ahead":                     {slices.Concat(z(16), f(1)), []int{-16, 1}},
		"15 behind":                    {slices.Concat(f(1), z(15)), []int{16}},
		"16 behind":                    {slices.Concat(f(1), z(16)), []int{1, -16}},
		"15 between":                   {slices.Concat(f(1), z(15), f(1)), []int{17}},
		"16 between":                   {slices.Concat(f(2), z(16), f(3)), []int{2, -16, 3}},
		"the chapter's":                {slices.Concat(z(15), f(1), z(17), f(1)), []int{16, -17, 1}},
		"15, one, 15":                  {slices.Concat(z(15), f(1), z(15)), []int{31}},
		"16, one, 16":                  {slices.Concat(z(16), f(1), z(16)), []int{-16, 1, -16}},
		"15, one, 16, one, 15":         {slices.Concat(z(15), f(1), z(16), f(1), z(15)), []int{16, -16, 16}},
		"two of 15 side by side":       {slices.Concat(f(1), z(15), f(1), z(15), f(1)), []int{33}},
		"a short and a long one":       {slices.Concat(f(1), z(3), f(1), z(300), f(1), z(3)), []int{5, -300, 4}},
		"a long one behind a short":    {slices.Concat(z(3), f(1), z(16)), []int{4, -16}},
		"long ones, one byte between":  {slices.Concat(z(99), f(1), z(99), f(1), z(99)), []int{-99, 1, -99, 1, -99}},
		"nothing but what is not zero": {f(100), []int{100}},
	} {
		var got []int
		at := 0
		for s := range stretches(x.data) {
			n := s.size
			if s.at != at || s.bytes != nil && !bytes.Equal(s.bytes, x.data[at:at+n]) {
				t.Errorf("%s: %v", what, s)
			}
			at += n
			if s.bytes == nil {
				n = -n
			}
			got = append(got, n)
		}
		if !slices.Equal(got, x.want) {
			t.Errorf("%s: %v, want %v", what, got, x.want)
		}
		tree := []api.Leaf{dir("/"), file("/a", x.data...)}
		want, _ := slowPack(tree)
		if b, e := Pack(tree); e != api.OK || !bytes.Equal(b, want) {
			t.Errorf("Pack of %s: % d, %d, want % d", what, b, e, want)
		}
	}
	for range stretches(slices.Concat(f(1), z(16), f(1))) {
		break // a range that is left is not gone on with
	}
	n := 0
	for s := range stretches(slices.Concat(f(1), z(16), f(1))) {
		if n++; s.bytes == nil {
			break
		}
	}
	if n != 2 {
		t.Errorf("a range that is left goes on: %d", n)
	}
}

// wrongTree is one that may not be, most of the time: of a tree that may be, with leaves changed.
func wrongTree(r *rand.Rand) []api.Leaf {
	tree := someTree(r, 12)
	for range 1 + r.Intn(2) {
		n := r.Intn(len(tree))
		switch r.Intn(8) {
		case 0:
			tree = slices.Delete(tree, n, n+1)
		case 1:
			tree = slices.Insert(tree, n, tree[r.Intn(len(tree))])
		case 2:
			m := r.Intn(len(tree))
			tree[n], tree[m] = tree[m], tree[n]
		case 3:
			tree[n].Type = r.Intn(5)
		case 4:
			tree[n].Mode = []int{-1, 0, 4095, 4096}[r.Intn(4)]
		case 5:
			tree[n].Path = []string{"/a", "/a/b", "a", "/..", "/a/", "/"}[r.Intn(6)]
		case 6:
			tree[n].Target = []string{"", "x", "\x00"}[r.Intn(3)]
		case 7:
			tree[n].Data = rep(0, r.Intn(2))
		}
		if len(tree) == 0 {
			break
		}
	}
	return tree
}

// Pack answers what the slow model does, of trees that may be and of those that may not.
func TestPackModel(t *testing.T) {
	r := rand.New(rand.NewSource(1))
	ends := map[api.Errno]int{}
	for range 20000 {
		tree := wrongTree(r)
		want, wanted := slowPack(tree)
		b, e := Pack(tree)
		if e != wanted || !bytes.Equal(b, want) {
			t.Fatalf("Pack of %v: % d, %d, want % d, %d", tree, b, e, want, wanted)
		}
		ends[e]++
	}
	if ends[api.OK] < 500 || ends[api.ErrPiece] < 500 || ends[api.ErrParcel] < 500 {
		t.Errorf("too few of a kind: %v", ends)
	}
}
