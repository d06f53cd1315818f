package chip

import (
	"bytes"
	"math/rand"
	"slices"
	"testing"

	"shale/api"
)

// model is a chip as the chapter's words say it, bit by bit, without any thought of speed.
type model struct {
	g       api.Geometry
	cells   [][][]byte // block, page, bit: 0 or 1
	flipped [][][]bool
	holds   [][]bool
	marks   []bool
	ready   []bool
	next    []int
	dark    bool
	taken   int
	trace   []api.Command
	faults  []api.Fault
}

func newModel(g api.Geometry, bad []int, faults []api.Fault) *model {
	m := &model{g: g, marks: make([]bool, g.Blocks), ready: make([]bool, g.Blocks), next: make([]int, g.Blocks), faults: faults}
	for b := range g.Blocks {
		m.ready[b] = true
		m.cells = append(m.cells, make([][]byte, g.Pages))
		m.flipped = append(m.flipped, make([][]bool, g.Pages))
		m.holds = append(m.holds, make([]bool, g.Pages))
		for p := range g.Pages {
			m.cells[b][p] = bytes.Repeat([]byte{1}, bitsOfPage(g))
			m.flipped[b][p] = make([]bool, bitsOfPage(g))
		}
	}
	for _, b := range bad {
		m.marks[b] = true
	}
	return m
}

func loadModel(i api.Image, faults []api.Fault) *model {
	m := newModel(i.G, nil, faults)
	at := 0
	for b := range i.G.Blocks {
		m.marks[b], m.ready[b] = i.Marks[b], false
		for p := range i.G.Pages {
			for n := range m.cells[b][p] {
				m.cells[b][p][n] = i.Cells[at/8] >> (at % 8) & 1
				at++
			}
		}
	}
	return m
}

func bitsOfPage(g api.Geometry) int { return 8 * (256*g.Sectors + 54 + 3*g.Sectors) }

// unitsOfPage tells each bit's unit: sectors 0, 1, .., the rails -1.
func unitsOfPage(g api.Geometry) []int {
	var units []int
	lay := func(n, unit int) {
		for range 8 * n {
			units = append(units, unit)
		}
	}
	for s := range g.Sectors {
		lay(256, s)
	}
	lay(54, -1)
	for s := range g.Sectors {
		lay(3, s)
	}
	return units
}

func (m *model) has(p api.Place) bool {
	return p.Block >= 0 && p.Block < m.g.Blocks && p.Page >= 0 && p.Page < m.g.Pages
}

// fault tells whether a mask lets a bit through, and the command's answer.
func (m *model) fault() (func(n int) bool, api.Errno) {
	number := m.taken
	m.taken++
	for _, f := range m.faults {
		if f.At != number {
			continue
		}
		lets := func(n int) bool {
			if n/8 < len(f.Mask) {
				return f.Mask[n/8]>>(n%8)&1 == 1
			}
			return f.Fill>>(n%8)&1 == 1
		}
		if f.Kind == api.FaultFail {
			return lets, api.ErrFailed
		}
		m.dark = true
		return lets, api.ErrOff
	}
	return func(int) bool { return true }, api.OK
}

func (m *model) note(kind, block, page int, e api.Errno) api.Errno {
	m.trace = append(m.trace, api.Command{Kind: kind, Block: block, Page: page, Status: e})
	return e
}

func (m *model) program(p api.Place, page api.Page) api.Errno {
	if m.dark {
		return api.ErrOff
	}
	if len(page.Data) != 256*m.g.Sectors || len(page.Spare) != 54+3*m.g.Sectors {
		return api.ErrPage
	}
	if !m.has(p) {
		return m.note(api.CmdProgram, p.Block, p.Page, api.ErrPlace)
	}
	if m.marks[p.Block] || !m.ready[p.Block] || p.Page < m.next[p.Block] {
		return m.note(api.CmdProgram, p.Block, p.Page, api.ErrRule)
	}
	lets, e := m.fault()
	m.next[p.Block] = p.Page + 1
	for n := range m.cells[p.Block][p.Page] {
		if bitOf(page, n) == 0 && lets(n) {
			m.cells[p.Block][p.Page][n] = 0
		}
	}
	m.holds[p.Block][p.Page] = e == api.OK
	return m.note(api.CmdProgram, p.Block, p.Page, e)
}

func bitOf(page api.Page, n int) byte {
	b := page.Data
	if n/8 >= len(b) {
		n, b = n-8*len(b), page.Spare
	}
	return b[n/8] >> (n % 8) & 1
}

func (m *model) erase(block int) api.Errno {
	if m.dark {
		return api.ErrOff
	}
	if !m.has(api.Place{Block: block}) {
		return m.note(api.CmdErase, block, 0, api.ErrPlace)
	}
	if m.marks[block] {
		return m.note(api.CmdErase, block, 0, api.ErrRule)
	}
	lets, e := m.fault()
	for p := range m.g.Pages {
		m.holds[block][p] = false
		for n := range m.cells[block][p] {
			m.flipped[block][p][n] = false
			if lets(p*bitsOfPage(m.g) + n) {
				m.cells[block][p][n] = 1
			}
		}
	}
	m.ready[block], m.next[block] = e == api.OK, 0
	return m.note(api.CmdErase, block, 0, e)
}

func (m *model) mark(block int) api.Errno {
	if m.dark {
		return api.ErrOff
	}
	if !m.has(api.Place{Block: block}) {
		return m.note(api.CmdMark, block, 0, api.ErrPlace)
	}
	lets, e := m.fault()
	if lets(0) {
		m.marks[block] = true
	}
	return m.note(api.CmdMark, block, 0, e)
}

func (m *model) flip(p api.Place, bit int) api.Errno {
	if !m.has(p) {
		return api.ErrPlace
	}
	if bit < 0 || bit >= bitsOfPage(m.g) || !m.holds[p.Block][p.Page] {
		return api.ErrFlip
	}
	units := unitsOfPage(m.g)
	for n, f := range m.flipped[p.Block][p.Page] {
		if f && units[n] == units[bit] {
			return api.ErrFlip
		}
	}
	m.flipped[p.Block][p.Page][bit] = true
	return api.OK
}

func (m *model) read(p api.Place) []byte {
	b := make([]byte, bitsOfPage(m.g)/8)
	for n, v := range m.cells[p.Block][p.Page] {
		if m.flipped[p.Block][p.Page][n] {
			v = 1 - v
		}
		b[n/8] |= v << (n % 8)
	}
	return b
}

func (m *model) image() api.Image {
	i := api.Image{G: m.g, Marks: slices.Clone(m.marks)}
	for b := range m.g.Blocks {
		for p := range m.g.Pages {
			i.Cells = append(i.Cells, m.read(api.Place{Block: b, Page: p})...)
		}
	}
	return i
}

func sameImage(a, b api.Image) bool {
	return a.G == b.G && bytes.Equal(a.Cells, b.Cells) && slices.Equal(a.Marks, b.Marks)
}

// someFaults tells faults at about one command in four, with masks that are short, long, and longer than what is written.
func someFaults(r *rand.Rand, n int) []api.Fault {
	var faults []api.Fault
	for at := range n {
		if r.Intn(4) > 0 {
			continue
		}
		f := api.Fault{At: at, Kind: 1 + r.Intn(2), Mask: make([]byte, []int{0, 1, 300, 313, 700, 1500}[r.Intn(6)]), Fill: byte(r.Intn(256))}
		r.Read(f.Mask)
		faults = append(faults, f)
	}
	return faults
}

func somePage(r *rand.Rand, g api.Geometry) api.Page {
	page := api.Page{Data: make([]byte, 256*g.Sectors), Spare: make([]byte, 54+3*g.Sectors)}
	r.Read(page.Data)
	r.Read(page.Spare)
	return page
}

// somePlace tells now and then a place that is not there.
func somePlace(r *rand.Rand, g api.Geometry) api.Place {
	p := api.Place{Block: r.Intn(3), Page: r.Intn(g.Pages)}
	switch r.Intn(30) {
	case 0:
		p.Block = g.Blocks
	case 1:
		p.Block = -1
	case 2:
		p.Page = g.Pages
	case 3:
		p.Page = -1
	case 4:
		p.Block = r.Intn(g.Blocks)
	}
	return p
}

// act gives one command to both, the same, and tells what they answered.
func act(r *rand.Rand, c *Chip, m *model) (got, want api.Errno) {
	p := somePlace(r, m.g)
	switch n := r.Intn(20); {
	case n < 9:
		page := somePage(r, m.g)
		if r.Intn(15) == 0 {
			page.Spare = page.Spare[1:]
		}
		return c.Program(p, page), m.program(p, page)
	case n < 13:
		return c.Erase(p.Block), m.erase(p.Block)
	case n < 14 && r.Intn(4) == 0:
		return c.Mark(p.Block), m.mark(p.Block)
	default:
		bit := r.Intn(bitsOfPage(m.g)+2) - 1
		return c.Flip(p, bit), m.flip(p, bit)
	}
}

func compare(t *testing.T, c *Chip, m *model) {
	t.Helper()
	if c.Dark() != m.dark || c.Count() != m.taken || !slices.Equal(c.Trace(), m.trace) {
		t.Fatalf("dark %v, %d taken, trace %v, want %v, %d, %v", c.Dark(), c.Count(), c.Trace(), m.dark, m.taken, m.trace)
	}
	if !sameImage(c.Image(), m.image()) {
		t.Fatalf("another image than the model's behind %v", m.trace)
	}
	for b := range m.g.Blocks {
		marked, e := c.Marked(b)
		if m.dark && (marked || e != api.ErrOff) || !m.dark && (marked != m.marks[b] || e != api.OK) {
			t.Fatalf("Marked(%d) = %v, %d", b, marked, e)
		}
		for p := range m.g.Pages {
			place := api.Place{Block: b, Page: p}
			page, e := c.Read(place)
			if m.dark && (page.Data != nil || page.Spare != nil || e != api.ErrOff) {
				t.Fatalf("Read(%v) in the dark: %d", place, e)
			}
			if !m.dark && (e != api.OK || len(page.Data) != 256*m.g.Sectors || !bytes.Equal(append(page.Data, page.Spare...), m.read(place))) {
				t.Fatalf("Read(%v): %d, or other bits than the model's", place, e)
			}
		}
	}
}

// TestC2ToC10AsTheModel gives chips, new and loaded, what the model is given, too.
func TestC2ToC10AsTheModel(t *testing.T) {
	for seed := range int64(24) {
		r := rand.New(rand.NewSource(seed))
		g := api.Geometry{Blocks: 8, Pages: 4, Sectors: 1 + int(seed)%3}
		faults := someFaults(r, 40)
		c, e := New(g, []int{2}, faults)
		m := newModel(g, []int{2}, faults)
		if seed%3 == 2 && e == api.OK {
			old := api.Image{G: g, Cells: make([]byte, 32*bitsOfPage(g)/8), Marks: []bool{false, false, true, false, false, false, false, true}}
			r.Read(old.Cells)
			c, e = Load(old, faults)
			m = loadModel(old, faults)
		}
		if e != api.OK {
			t.Fatalf("no chip: %d", e)
		}
		for i := range 150 {
			if got, want := act(r, c, m); got != want {
				t.Fatalf("seed %d, the command %d: %d, want %d", seed, i, got, want)
			}
			if i%10 == 0 || m.dark {
				compare(t, c, m)
			}
			if m.dark && r.Intn(2) == 0 {
				c.On()
				m.dark = false
			}
		}
		compare(t, c, m)
	}
}
