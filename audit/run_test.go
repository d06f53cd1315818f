package audit

import (
	"math/rand"
	"slices"
	"strconv"
	"testing"

	"shale/api"
	"shale/chip"
	"shale/leaf"
)

// The chapter's examples.
func TestRunExamples(t *testing.T) {
	c := newChip(t, small(), []int{3})
	reports(t, "a new chip", c, api.Report{Bad: 1, Findings: []api.Finding{found(api.FoundBad, 3, 0)}})
	if r, _ := Run(c.Image()); Show(r) != "floor 0\ncounted 0\nlive 0\nused 0\nbad 1\nsaved no\nbad 3 0 0\n" {
		t.Errorf("Show: %q", Show(r))
	}

	c = newChip(t, small(), nil)
	reports(t, "nothing", c, api.Report{})
	lay(t, c, head(0, 1, 1), header(at(0, 1), 2, 1, 2, file(1, "a")), head(1, 3, 1), copied(header(at(1, 1), 4, 3, 2, file(1, "a"))))
	reports(t, "a copy that does not count", c, api.Report{Floor: 1, Counted: 1, Live: 1, Used: 1, Findings: []api.Finding{found(api.FoundStale, 1, 1)}})
	lay(t, c, chunk(at(1, 2), 5, 3, 2, 0, 1))
	stale := found(api.FoundStale, 0, 1)
	reports(t, "a chunk, too", c, api.Report{Floor: 3, Counted: 2, Live: 2, Used: 1, Findings: []api.Finding{stale}})
	if e := c.Program(at(5, 0), api.Page{Data: make([]byte, 256), Spare: make([]byte, 57)}); e != api.OK {
		t.Fatal(e)
	}
	reports(t, "a page of zeros", c, api.Report{Floor: 3, Counted: 2, Live: 2, Used: 1, Findings: []api.Finding{found(api.FoundBroken, 5, 0), stale}})

	c = newChip(t, small(), nil)
	lay(t, c, head(0, 1, 1), header(at(0, 1), 2, 1, 2, file(7, "a")), head(1, 3, 1), copied(header(at(1, 1), 4, 3, 2, file(7, "a"))), chunk(at(1, 2), 5, 3, 2, 0, 1))
	reports(t, "the Parent 7", c, api.Report{Floor: 3, Counted: 2, Live: 2, Used: 1, Findings: []api.Finding{stale, lone(api.FoundLost, 2)}})
}

// ErrImage: what chip.Load refuses.
func TestRunRefuses(t *testing.T) {
	good := newChip(t, small(), nil).Image()
	short, few, shapeless := good, good, good
	short.Cells = good.Cells[1:]
	few.Marks = good.Marks[1:]
	shapeless.G.Pages = 3
	for _, m := range []api.Image{{}, {G: small()}, short, few, shapeless} {
		if r, e := Run(m); e != api.ErrImage || !sameReport(r, api.Report{}) || r.Findings != nil {
			t.Errorf("Run: %v, %d", r, e)
		}
	}
	if _, e := Run(good); e != api.OK {
		t.Errorf("Run: %d", e)
	}
}

// Whole pages that do not count, and pages that only seem to be heads.
func TestRunStale(t *testing.T) {
	c := newChip(t, small(), nil)
	lay(t, c, header(at(0, 0), 9, 9, 2, file(1, "a")), header(at(0, 1), 9, 9, 2, file(1, "a")))
	reports(t, "no head", c, api.Report{Findings: []api.Finding{found(api.FoundStale, 0, 0), found(api.FoundStale, 0, 1)}})
	lay(t, c, head(1, 5, 5), sheet{at: at(1, 1), tags: api.Tags{Kind: api.KindHead, Serial: 6, Begin: 5}}, chunk(at(1, 2), 4, 4, 2, 0, 1), save(at(1, 3), 7, 5))
	reports(t, "below the floor, a head that is none", c, api.Report{Floor: 5, Counted: 1, Used: 1, Findings: []api.Finding{
		found(api.FoundStale, 0, 0), found(api.FoundStale, 0, 1), found(api.FoundStale, 1, 1), found(api.FoundStale, 1, 2)}})
	c.Mark(1)
	reports(t, "marked", c, api.Report{Bad: 1, Findings: []api.Finding{found(api.FoundStale, 0, 0), found(api.FoundStale, 0, 1), found(api.FoundBad, 1, 0)}})
	c.Mark(0)
	reports(t, "both marked", c, api.Report{Bad: 2, Findings: []api.Finding{found(api.FoundBad, 0, 0), found(api.FoundBad, 1, 0)}})
}

// Bits that were put right: of any whole page, and of none that is marked or broken.
func TestRunFixed(t *testing.T) {
	c := newChip(t, small(), nil)
	lay(t, c, head(0, 1, 1), header(at(0, 1), 2, 1, 2, file(1, "a")), head(1, 3, 3), head(2, 4, 3), header(at(2, 1), 5, 3, 3, file(1, "b")))
	for _, p := range []api.Place{at(0, 0), at(0, 1), at(1, 0), at(2, 1)} {
		if c.Flip(p, 3) != api.OK || c.Flip(p, 2048+9) != api.OK {
			t.Fatal("Flip")
		}
	}
	reports(t, "flips", c, api.Report{Floor: 3, Counted: 1, Live: 1, Used: 1, Findings: []api.Finding{
		found(api.FoundFixed, 0, 0), found(api.FoundFixed, 0, 1), found(api.FoundFixed, 1, 0), found(api.FoundFixed, 2, 1), found(api.FoundStale, 0, 1)}})
	c.Mark(0)
	reports(t, "and marks", c, api.Report{Floor: 3, Counted: 1, Live: 1, Used: 1, Bad: 1, Findings: []api.Finding{
		found(api.FoundFixed, 1, 0), found(api.FoundFixed, 2, 1), found(api.FoundBad, 0, 0)}})
}

// Pages that count and are refused, told by place, though they are taken in by serial.
func TestRunRefused(t *testing.T) {
	c := newChip(t, shape(8, 8, 1), nil)
	shadowed := file(1, "s")
	shadowed.Shadow = 6
	torn := header(at(2, 2), 3, 1, 4, file(1, "x"))
	torn.data = torn.data[:len(torn.data)-1]
	lay(t, c, head(2, 1, 1),
		header(at(2, 1), 20, 1, 6, shadowed), // its own shadow
		torn,
		header(at(2, 3), 4, 1, 2, dir(1, "d")),
		chunk(at(2, 4), 6, 1, 2, 0, 9), // of a directory
		header(at(2, 5), 7, 1, 3, file(2, "f")),
		head(1, 10, 1),
		chunk(at(1, 1), 5, 1, 2, 1, 9), // of a directory
		chunk(at(1, 2), 11, 1, 3, 0, 9))
	reports(t, "refused", c, api.Report{Floor: 1, Counted: 7, Live: 3, Used: 2, Findings: []api.Finding{
		found(api.FoundHeader, 1, 1), found(api.FoundHeader, 2, 1), found(api.FoundHeader, 2, 2), found(api.FoundHeader, 2, 4)}})
	if r, _ := Run(c.Image()); Sound(r) {
		t.Error("Sound, though pages are refused")
	}
}

// Objects: phantoms, lost ones, those of one name, unlinked ones. Loose ones are not live.
func TestRunObjects(t *testing.T) {
	for what, x := range map[string]struct {
		nodes map[int]api.Node
		lost  []int
		twice []int
		gone  []int
	}{
		"all is well":                      {map[int]api.Node{2: dir(1, "d"), 3: file(2, "f"), 4: dir(2, "e"), 5: file(4, "f"), 6: file(1, "f")}, nil, nil, nil},
		"a parent that is not there":       {map[int]api.Node{2: file(9, "f")}, []int{2}, nil, nil},
		"a parent that is a file":          {map[int]api.Node{2: file(1, "f"), 3: file(2, "g"), 4: dir(3, "h")}, []int{3, 4}, nil, nil},
		"a parent that is unlinked":        {map[int]api.Node{2: dir(0, "d"), 3: file(2, "g"), 4: dir(2, "h"), 5: file(4, "i")}, []int{3, 4, 5}, nil, []int{2}},
		"its own parent":                   {map[int]api.Node{2: dir(2, "d"), 3: file(2, "f")}, []int{2, 3}, nil, nil},
		"a circle":                         {map[int]api.Node{2: dir(4, "d"), 3: dir(2, "d"), 4: dir(3, "d"), 5: file(4, "f"), 6: dir(1, "d")}, []int{2, 3, 4, 5}, nil, nil},
		"a parent of a greater number":     {map[int]api.Node{2: file(3, "f"), 3: dir(4, "d"), 4: dir(1, "d")}, nil, nil, nil},
		"below what is lost":               {map[int]api.Node{2: dir(9, "d"), 3: dir(2, "d"), 4: file(3, "d")}, []int{2, 3, 4}, nil, nil},
		"one name twice":                   {map[int]api.Node{2: file(1, "f"), 3: dir(1, "f")}, nil, []int{3}, nil},
		"one name three times":             {map[int]api.Node{2: file(1, "f"), 5: file(1, "f"), 7: file(1, "f"), 6: file(1, "g")}, nil, []int{5, 7}, nil},
		"one name in two directories":      {map[int]api.Node{2: dir(1, "f"), 3: dir(2, "f"), 4: dir(3, "f")}, nil, nil, nil},
		"names of another case":            {map[int]api.Node{2: file(1, "f"), 3: file(1, "F")}, nil, nil, nil},
		"one name, both lost":              {map[int]api.Node{2: file(9, "f"), 3: file(9, "f")}, []int{2, 3}, []int{3}, nil},
		"one name, both unlinked":          {map[int]api.Node{2: file(0, "f"), 3: file(0, "f")}, nil, nil, []int{2, 3}},
		"one name, one of them unlinked":   {map[int]api.Node{2: file(0, "f"), 3: file(1, "f")}, nil, nil, []int{2}},
		"a link, and what lies below it":   {map[int]api.Node{2: {Type: api.TypeLink, Parent: 1, Name: "l", Target: "/"}, 3: file(2, "f")}, []int{3}, nil, nil},
		"the root's number is no object's": {map[int]api.Node{2: dir(1, "d"), 3: file(1, "d!")}, nil, nil, nil},
	} {
		c := newChip(t, shape(8, 16, 1), nil)
		lay(t, c, head(0, 1, 1))
		want := api.Report{Floor: 1, Counted: len(x.nodes), Live: len(x.nodes) - len(x.gone), Used: 1}
		page := 1
		for id := 2; id < 10; id++ {
			if n, there := x.nodes[id]; there {
				lay(t, c, header(at(0, page), uint64(1+page), 1, id, n))
				page++
			}
		}
		for kind, list := range map[int][]int{api.FoundLost: x.lost, api.FoundTwice: x.twice, api.FoundLink: x.gone} {
			for _, id := range list {
				want.Findings = append(want.Findings, lone(kind, id))
			}
		}
		slices.SortFunc(want.Findings, func(a, b api.Finding) int { return (a.Kind-b.Kind)*100 + a.Object - b.Object })
		reports(t, what, c, want)
		if r, _ := Run(c.Image()); Sound(r) != (len(x.lost)+len(x.twice) == 0) {
			t.Errorf("%s: Sound: %v", what, Sound(r))
		}
	}
}

// Phantoms are told, and are not live; what is found of a state is found behind all that counts.
func TestRunPhantoms(t *testing.T) {
	c := newChip(t, shape(8, 16, 1), nil)
	lay(t, c, head(0, 1, 1), chunk(at(0, 1), 2, 1, 9, 3, 5), chunk(at(0, 2), 3, 1, 4, 0, 5), chunk(at(0, 3), 4, 1, 4, 1, 5))
	reports(t, "phantoms", c, api.Report{Floor: 1, Counted: 3, Used: 1, Findings: []api.Finding{lone(api.FoundPhantom, 4), lone(api.FoundPhantom, 9)}})
	n := file(1, "f")
	n.Size = 600
	lay(t, c, header(at(0, 4), 5, 1, 4, n))
	reports(t, "a header, too", c, api.Report{Floor: 1, Counted: 4, Live: 3, Used: 1, Findings: []api.Finding{lone(api.FoundPhantom, 9)}})
	n.Parent = 0
	lay(t, c, header(at(0, 5), 6, 1, 4, n))
	reports(t, "unlinked", c, api.Report{Floor: 1, Counted: 5, Used: 1, Findings: []api.Finding{lone(api.FoundPhantom, 9), lone(api.FoundLink, 4)}})
	heir := file(1, "f")
	heir.Shadow = 7
	lay(t, c, header(at(0, 6), 7, 1, 7, file(1, "g")), header(at(0, 7), 8, 1, 8, heir))
	reports(t, "in another's place", c, api.Report{Floor: 1, Counted: 7, Live: 1, Used: 1, Findings: []api.Finding{lone(api.FoundPhantom, 9), lone(api.FoundLink, 4), lone(api.FoundLink, 7)}})
}

func TestSound(t *testing.T) {
	for kind := -1; kind <= 12; kind++ {
		want := kind != api.FoundHeader && kind != api.FoundLost && kind != api.FoundTwice
		for _, list := range [][]api.Finding{{{Kind: kind}}, {{Kind: api.FoundBad}, {Kind: kind}}, {{Kind: kind}, {Kind: api.FoundBroken}, {Kind: api.FoundBad}}} {
			if Sound(api.Report{Findings: list}) != want {
				t.Errorf("Sound of the kind %d: %v", kind, !want)
			}
		}
	}
	if !Sound(api.Report{}) || !Sound(api.Report{Bad: 9, Saved: true, Findings: []api.Finding{}}) {
		t.Error("a report without findings is not sound")
	}
}

// someSheet picks a page of any kind, with serials that are near to one another, of a few objects.
func someSheet(r *rand.Rand, p api.Place) sheet {
	serial := uint64(1 + r.Intn(60))
	begin := 1 + uint64(r.Intn(min(int(serial), 4)))
	id := 2 + r.Intn(8)
	n := api.Node{Type: 1 + r.Intn(3), Parent: someOf(r, 0, 1, 1, 1, 1+r.Intn(9)), Name: someOf(r, "a", "b", "c")}
	switch n.Type {
	case api.TypeFile:
		n.Size = r.Intn(1000)
	case api.TypeLink:
		n.Target = "x"
	}
	if r.Intn(5) == 0 {
		n.Shadow = 2 + r.Intn(8)
	}
	x := header(p, serial, begin, id, n)
	switch r.Intn(12) {
	case 0:
		return save(p, serial, begin)
	case 1:
		return sheet{at: p, tags: api.Tags{Kind: api.KindHead, Serial: serial, Begin: begin}}
	case 2, 3, 4:
		x = chunk(p, serial, begin, id, r.Intn(4), 1+r.Intn(256))
	case 5:
		x.data = x.data[:len(x.data)-1]
	}
	if r.Intn(3) == 0 {
		return copied(x)
	}
	return x
}

// scribbled is a chip of pages that no log would have written, with blocks that are marked, torn pages and bits that have aged.
func scribbled(t *testing.T, r *rand.Rand) *chip.Chip {
	t.Helper()
	g := someOf(r, small(), shape(9, 5, 1), shape(11, 4, 2))
	c := newChip(t, g, []int{r.Intn(g.Blocks)}, api.Fault{At: 5 + r.Intn(9), Kind: api.FaultFail, Mask: someBytes(r, 100)}, api.Fault{At: 20, Kind: api.FaultFail, Fill: 255})
	for b := range g.Blocks {
		if is, _ := c.Marked(b); is || r.Intn(9) == 0 {
			continue
		}
		for p := range g.Pages {
			x := someSheet(r, at(b, p))
			if p == 0 && r.Intn(8) > 0 {
				x = head(b, x.tags.Serial, x.tags.Begin)
			}
			x.tags.Count = len(x.data)
			page, e := leaf.Build(g, x.tags, x.data)
			if e != api.OK {
				t.Fatal(e)
			}
			if r.Intn(6) > 0 {
				c.Program(x.at, page)
			}
			c.Flip(x.at, r.Intn(2000))
		}
	}
	if r.Intn(3) == 0 {
		c.Mark(r.Intn(g.Blocks))
	}
	return c
}

// Run tells what the slow model does, of any pages; P19.4; P11: and the same again.
func TestRunModel(t *testing.T) {
	kinds := map[int]int{}
	for seed := range int64(500) {
		c := scribbled(t, rand.New(rand.NewSource(seed)))
		r := model{t, c}.agrees("seed " + strconv.FormatInt(seed, 10))
		for _, f := range r.Findings {
			kinds[f.Kind]++
		}
		again, e := Run(c.Image())
		if e != api.OK || !sameReport(r, again) {
			t.Fatalf("P11: %v, %d, want %v", again, e, r)
		}
		clear(again.Findings)
		if third, _ := Run(c.Image()); !sameReport(r, third) {
			t.Fatal("R4: a report is kept")
		}
	}
	for kind := api.FoundBroken; kind <= api.FoundBad; kind++ {
		if kinds[kind] < 50 {
			t.Errorf("too few findings of a kind: %v", kinds)
		}
	}
}
