package image

import (
	"bytes"
	"math"
	"slices"
	"testing"

	"shale/api"
)

// shapes has geometries at their edges, and whether they may be.
func shapes() map[api.Geometry]bool {
	return map[api.Geometry]bool{
		shape(8, 4, 1): true, shape(7, 4, 1): false, shape(8, 3, 1): false, shape(8, 4, 0): false, shape(8, 4, 8): true, shape(8, 4, 9): false,
		shape(8, 256, 1): true, shape(8, 257, 1): false, shape(4096, 4, 1): true, shape(4097, 4, 1): false, shape(4096, 16, 1): true, shape(4096, 17, 1): false,
		shape(256, 256, 1): true, shape(257, 256, 1): false, shape(-8, 4, 1): false, shape(8, -4, 1): false, shape(8, 4, -1): false,
		shape(math.MaxInt, math.MaxInt, math.MaxInt): false, {}: false,
	}
}

// Check: the geometry first, then how many cells and marks there are.
func TestCheck(t *testing.T) {
	for g, may := range shapes() {
		m := api.Image{G: g, Cells: make([]byte, 10016), Marks: make([]bool, 8)}
		want := api.ErrShape
		if may {
			m = ofPages(g)
			want = api.OK
		}
		if e := Check(m); e != want {
			t.Errorf("Check of %v: %d, want %d", g, e, want)
		}
	}
	for what, x := range map[string]struct {
		cells, marks int
		want         api.Errno
	}{
		"all":                        {10016, 8, api.OK},
		"a cell too few":             {10015, 8, api.ErrImage},
		"a cell too many":            {10017, 8, api.ErrImage},
		"no cells":                   {0, 8, api.ErrImage},
		"a mark too few":             {10016, 7, api.ErrImage},
		"a mark too many":            {10016, 9, api.ErrImage},
		"no marks":                   {10016, 0, api.ErrImage},
		"nothing":                    {0, 0, api.ErrImage},
		"the data of all pages":      {32 * 256, 8, api.ErrImage},
		"as many as of nine a block": {8 * 9 * 313, 8, api.ErrImage},
	} {
		if e := Check(api.Image{G: small(), Cells: make([]byte, x.cells), Marks: make([]bool, x.marks)}); e != x.want {
			t.Errorf("Check of %s: %d, want %d", what, e, x.want)
		}
	}
}

// wrongImages are refused by all calls that take images.
func wrongImages() map[api.Errno][]api.Image {
	m := ofPages(small())
	short, long, few, many := m, m, m, m
	short.Cells = m.Cells[1:]
	long.Cells = append(slices.Clone(m.Cells), 255)
	few.Marks = m.Marks[1:]
	many.Marks = make([]bool, 9)
	shapeless, both := m, short
	shapeless.G.Blocks = 7
	both.G.Sectors = 9
	return map[api.Errno][]api.Image{api.ErrImage: {short, long, few, many, {G: small()}}, api.ErrShape: {shapeless, both, {}}}
}

func TestWrongImages(t *testing.T) {
	good := ofPages(small())
	for want, list := range wrongImages() {
		for _, m := range list {
			if e := Check(m); e != want {
				t.Errorf("Check: %d, want %d", e, want)
			}
			if b, e := Pack(m); e != want || b != nil {
				t.Errorf("Pack: %v, %d, want %d", b, e, want)
			}
			if p, e := Page(m, place(0, 0)); e != want || p.Data != nil || p.Spare != nil {
				t.Errorf("Page: %v, %d, want %d", p, e, want)
			}
			if p, e := Page(m, place(-1, 9)); e != want || p.Data != nil || p.Spare != nil {
				t.Errorf("R2: Page: %v, %d, want %d", p, e, want)
			}
			if l, e := Diff(m, good); e != want || l != nil {
				t.Errorf("Diff: %v, %d, want %d", l, e, want)
			}
			if l, e := Diff(good, m); e != want || l != nil {
				t.Errorf("Diff: %v, %d, want %d", l, e, want)
			}
		}
	}
	wrong := wrongImages()
	if _, e := Diff(wrong[api.ErrImage][0], wrong[api.ErrShape][0]); e != api.ErrImage {
		t.Errorf("R2: Diff of two wrong ones: %d, want the first one's error", e)
	}
	if _, e := Diff(wrong[api.ErrShape][0], wrong[api.ErrImage][0]); e != api.ErrShape {
		t.Errorf("R2: Diff of two wrong ones: %d, want the first one's error", e)
	}
}

// The chapter's rows, and what lies at their edges.
func TestPackExamples(t *testing.T) {
	g := small()
	one := sheet(g, 7, 5, 6)
	blank := sheet(g, 255)
	told := func(spare byte, data ...byte) []byte {
		return slices.Concat([]byte{1, byte(len(data)), byte(len(data) >> 8)}, data, rep(spare, 57))
	}
	inner := slices.Concat([]byte{255, 255, 9}, rep(255, 3), []byte{8})
	full := append(rep(255, 255), 1)
	for what, x := range map[string]struct {
		pages  [][]byte
		pieces []byte
	}{
		"all blank":                    {nil, []byte{0, 32, 0}},
		"one":                          {[][]byte{blank, one}, slices.Concat([]byte{0, 1, 0}, told(7, 5, 6), []byte{0, 30, 0})},
		"a twin":                       {[][]byte{blank, one, one}, slices.Concat([]byte{0, 1, 0}, told(7, 5, 6), []byte{2, 1, 0, 0, 29, 0})},
		"no data":                      {[][]byte{sheet(g, 0)}, slices.Concat(told(0), []byte{0, 31, 0})},
		"no spare":                     {[][]byte{sheet(g, 255, 3)}, slices.Concat(told(255, 3), []byte{0, 31, 0})},
		"ones within":                  {[][]byte{sheet(g, 255, inner...)}, slices.Concat(told(255, inner...), []byte{0, 31, 0})},
		"the last byte alone":          {[][]byte{sheet(g, 4, full...)}, slices.Concat(told(4, full...), []byte{0, 31, 0})},
		"a twin of the block ahead":    {[][]byte{blank, blank, blank, one, one, one, blank, one}, slices.Concat([]byte{0, 3, 0}, told(7, 5, 6), []byte{2, 2, 0, 0, 1, 0}, told(7, 5, 6), []byte{0, 24, 0})},
		"three in turn":                {[][]byte{one, sheet(g, 7, 5), one}, slices.Concat(told(7, 5, 6), told(7, 5), told(7, 5, 6), []byte{0, 29, 0})},
		"a bit of the spare":           {[][]byte{one, append(slices.Clone(one[:312]), 6)}, slices.Concat(told(7, 5, 6), told(7, 5, 6)[:61], []byte{6, 0, 30, 0})},
		"twins up to the end":          {slices.Repeat([][]byte{one}, 32), slices.Concat(told(7, 5, 6), []byte{2, 31, 0})},
		"the last page":                {append(slices.Repeat([][]byte{blank}, 31), one), slices.Concat([]byte{0, 31, 0}, told(7, 5, 6))},
		"twins of two, one beside one": {[][]byte{one, one, sheet(g, 7), sheet(g, 7), sheet(g, 7)}, slices.Concat(told(7, 5, 6), []byte{2, 1, 0}, told(7), []byte{2, 2, 0, 0, 27, 0})},
	} {
		m := marked(ofPages(g, x.pages...), 3)
		want := row(x.pieces...)
		if b, e := Pack(m); e != api.OK || !bytes.Equal(b, want) {
			t.Errorf("Pack of %s: % d, %d, want % d", what, b, e, want)
		}
		if got, e := Read(want); e != api.OK || !alike(got, m) {
			t.Errorf("Read of %s: %d", what, e)
		}
	}
}

// The front of a row: the geometry and the marks.
func TestPackFronts(t *testing.T) {
	for what, x := range map[string]struct {
		m    api.Image
		want []byte
	}{
		"8 blocks":        {marked(ofPages(shape(8, 4, 2)), 0, 7), []byte{8, 0, 4, 0, 2, 129, 0, 32, 0}},
		"9 blocks":        {marked(ofPages(shape(9, 5, 1)), 8), []byte{9, 0, 5, 0, 1, 0, 1, 0, 45, 0}},
		"16 blocks":       {marked(ofPages(shape(16, 4, 1)), 9, 15), []byte{16, 0, 4, 0, 1, 0, 130, 0, 64, 0}},
		"17 blocks":       {marked(ofPages(shape(17, 4, 1)), 16, 1), []byte{17, 0, 4, 0, 1, 2, 0, 1, 0, 68, 0}},
		"256 pages":       {ofPages(shape(8, 256, 8)), []byte{8, 0, 0, 1, 8, 0, 0, 0, 8}},
		"more than a 255": {ofPages(shape(257, 4, 1)), slices.Concat([]byte{1, 1, 4, 0, 1}, make([]byte, 33), []byte{0, 4, 4})},
	} {
		want := sealed([]byte("SHAL\x01"), x.want)
		if b, e := Pack(x.m); e != api.OK || !bytes.Equal(b, want) {
			t.Errorf("Pack of %s: % d, %d, want % d", what, b, e, want)
		}
		if got, e := Read(want); e != api.OK || !alike(got, x.m) {
			t.Errorf("Read of %s: %d", what, e)
		}
	}
}

// A run of more than 65535 pages is two pieces; twins are one fewer than the pages at most.
func TestPackLongRuns(t *testing.T) {
	g := shape(4096, 16, 1)
	one := sheet(g, 7, 5)
	all := ofPages(g, slices.Repeat([][]byte{one}, 65536)...)
	last, first := ofPages(g), ofPages(g)
	copy(last.Cells[65535*313:], one)
	copy(first.Cells, one)
	told := slices.Concat([]byte{1, 1, 0, 5}, rep(7, 57))
	for what, x := range map[string]struct {
		m    api.Image
		want []byte
	}{
		"all blank":        {ofPages(g), []byte{0, 255, 255, 0, 1, 0}},
		"all but the last": {last, slices.Concat([]byte{0, 255, 255}, told)},
		"all but one":      {first, slices.Concat(told, []byte{0, 255, 255})},
		"all twins":        {all, slices.Concat(told, []byte{2, 255, 255})},
	} {
		want := sealed([]byte{83, 72, 65, 76, 1, 0, 16, 16, 0, 1}, make([]byte, 512), x.want)
		if b, e := Pack(x.m); e != api.OK || !bytes.Equal(b, want) {
			t.Errorf("Pack of %s: %d bytes, %d", what, len(b), e)
		}
		if got, e := Read(want); e != api.OK || !alike(got, x.m) {
			t.Errorf("Read of %s: %d", what, e)
		}
	}
	for what, pieces := range map[string][]byte{
		"the longest one last": {0, 1, 0, 0, 255, 255},
		"two halves":           {0, 0, 128, 0, 0, 128},
		"one fewer":            {0, 254, 255, 0, 2, 0},
		"one too many":         {0, 255, 255, 0, 2, 0},
		"twins behind twins":   slices.Concat(told, []byte{2, 254, 255, 2, 1, 0}),
		"a twin of a blank":    {0, 255, 255, 2, 1, 0},
	} {
		b := sealed([]byte{83, 72, 65, 76, 1, 0, 16, 16, 0, 1}, make([]byte, 512), pieces)
		if m, e := Read(b); e != api.ErrImage || m.Cells != nil || m.Marks != nil {
			t.Errorf("Read of %s: %d", what, e)
		}
	}
}

func TestPage(t *testing.T) {
	for _, g := range []api.Geometry{small(), shape(9, 5, 3)} {
		var list [][]byte
		for n := range g.Blocks * g.Pages {
			list = append(list, sheet(g, byte(n), byte(n+100)))
		}
		m := ofPages(g, list...)
		data, spare := sizes(g)
		for n, want := range list {
			p, e := Page(m, place(n/g.Pages, n%g.Pages))
			if e != api.OK || !bytes.Equal(p.Data, want[:data]) || !bytes.Equal(p.Spare, want[data:]) || len(p.Spare) != spare {
				t.Errorf("the page %d: %d", n, e)
			}
		}
		for _, p := range []api.Place{place(0, g.Pages), place(g.Blocks, 0), place(-1, 0), place(0, -1), place(g.Blocks-1, g.Pages), place(-1, g.Pages), place(1, -1), place(math.MaxInt, math.MaxInt), place(math.MinInt, 0), place(0, math.MinInt), place(1<<62, 0)} {
			if x, e := Page(m, p); e != api.ErrPlace || x.Data != nil || x.Spare != nil {
				t.Errorf("the page %v: %d", p, e)
			}
		}
	}
}

func TestDiff(t *testing.T) {
	g := small()
	blank := ofPages(g)
	third := marked(blank, 3)
	one := marked(ofPages(g, sheet(g, 255), sheet(g, 7, 5, 6)), 3)
	ends := marked(blank, 0, 7)
	ends.Cells = slices.Clone(blank.Cells)
	ends.Cells[0], ends.Cells[312], ends.Cells[313], ends.Cells[10015] = 0, 0, 0, 0
	middle := marked(blank, 2)
	middle.Cells = slices.Clone(blank.Cells)
	middle.Cells[11*313+256] = 254
	middle.Cells[8*313+255] = 254
	for what, x := range map[string]struct {
		a, b api.Image
		want []api.Place
	}{
		"the same":                   {one, one, nil},
		"a mark":                     {third, blank, []api.Place{place(3, -1)}},
		"a page":                     {third, one, []api.Place{place(0, 1)}},
		"both":                       {blank, one, []api.Place{place(0, 1), place(3, -1)}},
		"the first and the last":     {blank, ends, []api.Place{place(0, -1), place(0, 0), place(0, 1), place(7, -1), place(7, 3)}},
		"a mark ahead of its pages":  {blank, middle, []api.Place{place(2, -1), place(2, 0), place(2, 3)}},
		"marks that both have":       {third, marked(blank, 3), nil},
		"marks that change about":    {marked(blank, 4), third, []api.Place{place(3, -1), place(4, -1)}},
		"pages alike in both images": {ofPages(g, sheet(g, 1), sheet(g, 2)), ofPages(g, sheet(g, 2), sheet(g, 1)), []api.Place{place(0, 0), place(0, 1)}},
	} {
		if l, e := Diff(x.a, x.b); e != api.OK || !slices.Equal(l, x.want) {
			t.Errorf("%s: %v, %d, want %v", what, l, e, x.want)
		}
		if l, e := Diff(x.b, x.a); e != api.OK || !slices.Equal(l, x.want) {
			t.Errorf("P20.4: %s, changed about: %v, %d, want %v", what, l, e, x.want)
		}
	}
	// 8 blocks of 8 pages have as many bytes as 16 of 4.
	for _, g := range []api.Geometry{shape(16, 4, 1), shape(8, 8, 1), shape(8, 4, 2), shape(9, 4, 1)} {
		if l, e := Diff(ofPages(g), blank); e != api.ErrShape || l != nil {
			t.Errorf("Diff of %v and a small one: %v, %d", g, l, e)
		}
	}
	if l, e := Diff(ofPages(shape(16, 4, 1)), ofPages(shape(8, 8, 1))); e != api.ErrShape || l != nil {
		t.Errorf("Diff of two shapes of one size: %v, %d", l, e)
	}
}
