package tags

import (
	"math"
	"math/rand"
	"testing"

	"shale/api"
)

func shape(blocks, pages, sectors int) api.Geometry {
	return api.Geometry{Blocks: blocks, Pages: pages, Sectors: sectors}
}

// Tags that may be in every geometry, one of each kind.
func head() api.Tags { return api.Tags{Kind: 1, Serial: 5, Begin: 5} }

func node() api.Tags { return api.Tags{Kind: 2, Serial: 9, Begin: 1, Object: 2, Count: 9} }

func data() api.Tags { return api.Tags{Kind: 3, Serial: 9, Begin: 4, Object: 7, Chunk: 3, Count: 256} }

func save() api.Tags {
	return api.Tags{Kind: 4, Serial: 9, Begin: 9, Object: 3, Chunk: 1, Count: 4}
}

func with(t api.Tags, set func(*api.Tags)) api.Tags {
	set(&t)
	return t
}

func TestP61Examples(t *testing.T) {
	one, two := shape(8, 4, 1), shape(8, 4, 2)
	ninth, _ := example()
	for _, c := range []struct {
		g    api.Geometry
		t    api.Tags
		want api.Errno
	}{
		{one, ninth, api.ErrField},
		{two, ninth, api.OK},
		{two, with(ninth, func(t *api.Tags) { t.Flags = 3 }), api.ErrField},
		{one, api.Tags{Kind: 1, Serial: 5, Begin: 5}, api.OK},
		{one, api.Tags{Kind: 1, Serial: 5, Begin: 6}, api.ErrField},
		{one, api.Tags{Kind: 4, Flags: 4, Serial: 9, Begin: 1, Object: 1, Count: 4}, api.OK},
		{one, api.Tags{Kind: 4, Serial: 9, Begin: 1, Object: 1, Count: 4}, api.ErrField},
		{shape(7, 4, 1), ninth, api.ErrShape},
		{shape(7, 4, 1), api.Tags{}, api.ErrShape},
		{one, api.Tags{}, api.ErrField},
	} {
		if e := Check(c.g, c.t); e != c.want {
			t.Errorf("Check(%v, %v) = %d, want %d", c.g, c.t, e, c.want)
		}
	}
}

func TestP61Geometries(t *testing.T) {
	for _, c := range []struct {
		g    api.Geometry
		want api.Errno
	}{
		{shape(8, 4, 1), api.OK},
		{shape(8, 256, 8), api.OK},
		{shape(4096, 4, 1), api.OK},
		{shape(4096, 16, 8), api.OK},
		{shape(256, 256, 1), api.OK},
		{shape(7, 4, 1), api.ErrShape},
		{shape(4097, 4, 1), api.ErrShape},
		{shape(8, 3, 1), api.ErrShape},
		{shape(8, 257, 1), api.ErrShape},
		{shape(8, 4, 0), api.ErrShape},
		{shape(8, 4, 9), api.ErrShape},
		{shape(4096, 17, 1), api.ErrShape},
		{shape(257, 256, 1), api.ErrShape},
		{shape(0, 0, 0), api.ErrShape},
		{shape(-8, -4, 1), api.ErrShape},
		{shape(8, 4, -1), api.ErrShape},
		{shape(math.MaxInt, math.MaxInt, 1), api.ErrShape},
		{shape(math.MinInt, 4, 1), api.ErrShape},
		{shape(8, math.MinInt, 1), api.ErrShape},
		{shape(8, 4, math.MaxInt), api.ErrShape},
	} {
		if e := Check(c.g, head()); e != c.want {
			t.Errorf("Check(%v, a head) = %d, want %d", c.g, e, c.want)
		}
		if e := Check(c.g, api.Tags{}); c.want == api.ErrShape && e != c.want {
			t.Errorf("R2: Check(%v, no tags) = %d, want %d", c.g, e, c.want)
		}
	}
}

// edge is a field, the values that it may have, and those that it may not.
type edge struct {
	what     string
	t        api.Tags
	set      func(*api.Tags, int)
	may, not []int
}

func edges() []edge {
	kind := func(t *api.Tags, v int) { t.Kind = v }
	flags := func(t *api.Tags, v int) { t.Flags = v }
	object := func(t *api.Tags, v int) { t.Object = v }
	chunk := func(t *api.Tags, v int) { t.Chunk = v }
	count := func(t *api.Tags, v int) { t.Count = v }
	last := with(save(), func(t *api.Tags) { t.Chunk, t.Flags = 2, 4 })
	only := func(t *api.Tags, v int) { t.Object, t.Chunk = v, v-1 }
	return []edge{
		{"a head's Kind", head(), kind, []int{1}, []int{0, 2, 3, 4, 5, 255, 257, -1, math.MinInt, math.MaxInt}},
		{"another kind", node(), kind, []int{2, 3, 4}, []int{0, 1, 5, 8, -2}},
		{"a head's Flags", head(), flags, []int{0}, []int{1, 2, 4, 8, -1, 256}},
		{"a head's Object", head(), object, []int{0}, []int{1, 2, -1}},
		{"a head's Chunk", head(), chunk, []int{0}, []int{1, -1}},
		{"a head's Count", head(), count, []int{0}, []int{1, 4, 256, -1}},
		{"a node's Flags", node(), flags, []int{0, 1}, []int{2, 3, 4, 5, -1, 256}},
		{"a node's Object", node(), object, []int{2, 3, 1<<20 - 1}, []int{0, 1, 1 << 20, -1, math.MinInt, math.MaxInt}},
		{"a node's Chunk", node(), chunk, []int{0}, []int{1, -1, math.MaxInt}},
		{"a node's Count", node(), count, []int{1, 2, 255, 256}, []int{0, 257, -1, math.MinInt, math.MaxInt}},
		{"a chunk's Flags", data(), flags, []int{0, 1, 2}, []int{3, 4, 5, 6, 7, -1, 258}},
		{"a chunk's Object", data(), object, []int{2, 3, 1<<20 - 1}, []int{0, 1, 1 << 20, -1, math.MinInt, math.MaxInt}},
		{"a chunk's Chunk", data(), chunk, []int{0, 1, 1<<20 - 1}, []int{-1, 1 << 20, math.MinInt, math.MaxInt}},
		{"a chunk's Count", data(), count, []int{1, 2, 255, 256}, []int{0, 257, -1, math.MinInt, math.MaxInt}},
		{"a part's Flags", save(), flags, []int{0}, []int{1, 2, 4, 5, -1, 256}},
		{"the last part's Flags", last, flags, []int{4}, []int{0, 1, 2, 5, 6, -1, 260}},
		{"how many parts, of one in their midst", save(), object, []int{3, 4, 65536}, []int{0, 1, 2, 65537, -1, math.MinInt, math.MaxInt}},
		{"how many parts, of the last one", last, only, []int{1, 2, 65535, 65536}, []int{0, 65537, -1, math.MinInt, math.MaxInt}},
		{"a part's Chunk", save(), chunk, []int{0, 1}, []int{2, 3, -1, math.MinInt, math.MaxInt}},
		{"a part's Count", save(), count, []int{4, 5, 255, 256}, []int{3, 0, 257, -1, math.MinInt, math.MaxInt}},
	}
}

func TestP61EachField(t *testing.T) {
	g := shape(8, 4, 1)
	for _, c := range edges() {
		for _, v := range c.may {
			if e := Check(g, with(c.t, func(t *api.Tags) { c.set(t, v) })); e != api.OK {
				t.Errorf("%s %d: %d, want OK", c.what, v, e)
			}
		}
		for _, v := range c.not {
			if e := Check(g, with(c.t, func(t *api.Tags) { c.set(t, v) })); e != api.ErrField {
				t.Errorf("%s %d: %d, want ErrField", c.what, v, e)
			}
		}
	}
}

func TestP61Serials(t *testing.T) {
	const most = 1<<48 - 1
	for _, tags := range []api.Tags{head(), node(), data(), save()} {
		for _, c := range []struct {
			serial, begin uint64
			want          api.Errno
		}{
			{1, 1, api.OK},
			{2, 1, api.OK},
			{most, 1, api.OK},
			{most, most, api.OK},
			{most, most - 1, api.OK},
			{0, 0, api.ErrField},
			{1, 0, api.ErrField},
			{0, 1, api.ErrField},
			{1, 2, api.ErrField},
			{most - 1, most, api.ErrField},
			{most + 1, 1, api.ErrField},
			{most + 1, most + 1, api.ErrField},
			{math.MaxUint64, 1, api.ErrField},
			{math.MaxUint64, math.MaxUint64, api.ErrField},
			{9, math.MaxUint64, api.ErrField},
		} {
			tags.Serial, tags.Begin = c.serial, c.begin
			if e := Check(shape(8, 4, 1), tags); e != c.want {
				t.Errorf("Check(%v) = %d, want %d", tags, e, c.want)
			}
		}
	}
}

func TestP61WhatAPageHolds(t *testing.T) {
	for sectors := 1; sectors <= 8; sectors++ {
		g := shape(8, 4, sectors)
		zeros, count := 8*259*sectors, 256*sectors
		for _, tags := range []api.Tags{head(), node(), data(), save()} {
			for v, want := range map[int]api.Errno{0: api.OK, 1: api.OK, zeros: api.OK, zeros + 1: api.ErrField, -1: api.ErrField, math.MaxInt: api.ErrField, math.MinInt: api.ErrField} {
				tags.Zeros = v
				if e := Check(g, tags); e != want {
					t.Errorf("%d sectors, Check(%v) = %d, want %d", sectors, tags, e, want)
				}
			}
		}
		for _, tags := range []api.Tags{node(), data(), save()} {
			for v, want := range map[int]api.Errno{count - 1: api.OK, count: api.OK, count + 1: api.ErrField} {
				tags.Count = v
				if e := Check(g, tags); e != want {
					t.Errorf("%d sectors, Check(%v) = %d, want %d", sectors, tags, e, want)
				}
			}
		}
	}
}

// slowMayBe follows the chapter's words and its table, row by row.
func slowMayBe(sectors int, t api.Tags) bool {
	if t.Kind < 1 || t.Kind > 4 || t.Serial < 1 || t.Serial > 1<<48-1 || t.Begin < 1 || t.Begin > t.Serial {
		return false
	}
	if t.Zeros < 0 || t.Zeros > 8*259*sectors || t.Count < 0 || t.Count > 256*sectors {
		return false
	}
	type span struct{ from, to int }
	in := func(v int, s span) bool { return v >= s.from && v <= s.to }
	flags := map[int][]int{1: {0}, 2: {0, 1}, 3: {0, 1, 2}, 4: {0}}[t.Kind]
	if t.Kind == 4 && t.Chunk == t.Object-1 {
		flags = []int{4}
	}
	flag := false
	for _, f := range flags {
		flag = flag || t.Flags == f
	}
	object := map[int]span{1: {0, 0}, 2: {2, 1<<20 - 1}, 3: {2, 1<<20 - 1}, 4: {1, 65536}}[t.Kind]
	chunk := map[int]span{1: {0, 0}, 2: {0, 0}, 3: {0, 1<<20 - 1}, 4: {0, t.Object - 1}}[t.Kind]
	count := map[int]span{1: {0, 0}, 2: {1, math.MaxInt}, 3: {1, math.MaxInt}, 4: {4, math.MaxInt}}[t.Kind]
	return flag && in(t.Object, object) && in(t.Chunk, chunk) && in(t.Count, count)
}

// nearTags are tags of values that stand at the edges, so that some may be and some may not.
func nearTags(r *rand.Rand) api.Tags {
	of := func(list ...int) int { return list[r.Intn(len(list))] }
	serial := uint64(of(0, 1, 2, 3, 1<<48-1, 1<<48-1, 1<<48))
	t := api.Tags{
		Kind:   of(0, 1, 1, 2, 2, 3, 3, 3, 4, 4, 4, 5),
		Flags:  of(0, 0, 0, 1, 2, 3, 4, 4),
		Serial: serial,
		Begin:  serial - uint64(of(0, 0, 1, 2, -1)),
		Object: of(0, 0, 1, 2, 3, 65535, 65536, 65537, 1<<20-1, 1<<20),
		Count:  of(0, 0, 1, 3, 4, 5, 256, 257, 512, 513, 2048, 2049, -1),
		Zeros:  of(0, 1, 2072, 2073, 4144, 4145, 8*2072, 8*2072+1, -1),
	}
	t.Chunk = of(0, 0, 1, t.Object-1, t.Object-1, t.Object-2, t.Object, 1<<20-1, 1<<20, -1)
	return t
}

func TestP61HeldAgainstTheTable(t *testing.T) {
	r := rand.New(rand.NewSource(6))
	may := 0
	for range 400000 {
		tags, sectors := nearTags(r), 1+r.Intn(8)
		want := api.ErrField
		if slowMayBe(sectors, tags) {
			want = api.OK
			may++
		}
		if e := Check(shape(8, 4, sectors), tags); e != want {
			t.Fatalf("%d sectors, Check(%v) = %d, want %d", sectors, tags, e, want)
		}
	}
	if may < 2000 {
		t.Errorf("only %d tags may be: nothing is shown", may)
	}
}

func TestP67WhatMayBeFits(t *testing.T) {
	r := rand.New(rand.NewSource(7))
	great := []api.Tags{
		{Kind: 3, Flags: 2, Serial: 1<<48 - 1, Begin: 1<<48 - 1, Object: 1<<20 - 1, Chunk: 1<<20 - 1, Count: 2048, Zeros: 8 * 2072},
		{Kind: 4, Flags: 4, Serial: 1<<48 - 1, Begin: 1<<48 - 1, Object: 65536, Chunk: 65535, Count: 2048, Zeros: 8 * 2072},
	}
	fit := func(tags api.Tags) {
		if Check(shape(8, 4, 8), tags) != api.OK {
			return
		}
		if b, e := Pack(tags); len(b) != 26 || e != api.OK {
			t.Errorf("Pack(%v): %d bytes, %d", tags, len(b), e)
		}
		if l, e := Lay(tags); len(l) != 54 || e != api.OK {
			t.Errorf("Lay(%v): %d bytes, %d", tags, len(l), e)
		}
	}
	for _, tags := range great {
		if e := Check(shape(8, 4, 8), tags); e != api.OK {
			t.Errorf("Check(%v) = %d", tags, e)
		}
		fit(tags)
	}
	for range 20000 {
		fit(nearTags(r))
	}
}

func TestP68WithMoreSectors(t *testing.T) {
	r := rand.New(rand.NewSource(8))
	shapes := [][2]int{{8, 4}, {8, 256}, {256, 256}, {4096, 4}, {4096, 16}}
	for range 50000 {
		tags, s := nearTags(r), shapes[r.Intn(len(shapes))]
		may := false
		for sectors := 1; sectors <= 8; sectors++ {
			e := Check(shape(s[0], s[1], sectors), tags)
			if may && e != api.OK {
				t.Fatalf("Check(%v) with %d sectors = %d, with fewer OK", tags, sectors, e)
			}
			may = may || e == api.OK
			if other := Check(shape(8, 4, sectors), tags); other != e {
				t.Fatalf("Check(%v) = %d with one geometry, %d with another of as many sectors", tags, e, other)
			}
		}
	}
}
