package point

import (
	"bytes"
	"slices"

	"shale/api"
	"shale/chip"
	"shale/leaf"
	"shale/scan"
	"shale/words"
)

// Restore tells the state of the checkpoint that is the last that was written.
func Restore(c *chip.Chip) (api.State, bool, api.Errno) {
	if c.Dark() {
		return api.State{}, false, api.ErrOff
	}
	f := surveyed(c)
	parts, found := f.parts()
	if !found {
		return api.State{}, false, api.OK
	}
	s, e := Read(joined(parts))
	if e != api.OK || s.Floor != parts[0].Look.Tags.Begin || !f.fits(s.Blocks) {
		return api.State{}, false, api.OK
	}
	return f.resumed(s, parts), true, api.OK
}

// finder looks for a checkpoint: it knows of each block what its first page and its mark tell, and reads others only where a part leads.
type finder struct {
	chip  *chip.Chip
	heads []uint64 // the serials of the blocks' heads; 0: the block has none, or is marked
	marks []bool
}

func surveyed(c *chip.Chip) *finder {
	blocks := c.Geometry().Blocks
	f := &finder{chip: c, heads: make([]uint64, blocks), marks: make([]bool, blocks)}
	for n := range blocks {
		f.marks[n], _ = c.Marked(n)
		first, whole := f.leaf(api.Place{Block: n})
		if whole && !f.marks[n] && first.Look.Tags.Kind == api.KindHead {
			f.heads[n] = first.Look.Tags.Serial
		}
	}
	return f
}

// leaf reads a page; false: there is none, or it is not whole.
func (f *finder) leaf(at api.Place) (scan.Leaf, bool) {
	page, e := f.chip.Read(at)
	if e != api.OK {
		return scan.Leaf{}, false
	}
	look, e := leaf.Open(f.chip.Geometry(), page)
	return scan.Leaf{Place: at, Look: look}, e == api.OK && look.State == api.LookWhole
}

// parts tells the parts of a checkpoint behind which nothing whole was written, the first one first; false: there is none.
func (f *finder) parts() ([]scan.Leaf, bool) {
	last, found := f.newest()
	if t := last.Look.Tags; !found || t.Kind != api.KindSave || t.Flags != api.FlagEnd || t.Chunk != t.Object-1 {
		return nil, false
	}
	list := []scan.Leaf{last}
	for part := last; part.Look.Tags.Chunk > 0; {
		part, found = f.ahead(part)
		if !found {
			return nil, false
		}
		list = append(list, part)
	}
	slices.Reverse(list)
	return list, bytes.Equal(linkOf(list[0]), noLink()) && !slices.ContainsFunc(list, empty)
}

// newest tells the last whole page of the block with the newest head.
func (f *finder) newest() (scan.Leaf, bool) {
	block, serial := 0, uint64(0)
	for n, head := range f.heads {
		if head >= serial {
			block, serial = n, head
		}
	}
	if serial == 0 {
		return scan.Leaf{}, false
	}
	for page := f.chip.Geometry().Pages - 1; page > 0; page-- {
		if x, whole := f.leaf(api.Place{Block: block, Page: page}); whole {
			return x, true
		}
	}
	return scan.Leaf{}, false
}

// ahead tells the part to which a part's link leads; false: that is not the one ahead of it.
func (f *finder) ahead(part scan.Leaf) (scan.Leaf, bool) {
	at := placeIn(linkOf(part))
	if at.Block >= len(f.heads) || f.heads[at.Block] == 0 {
		return scan.Leaf{}, false
	}
	x, whole := f.leaf(at)
	t, behind := x.Look.Tags, part.Look.Tags
	if !whole || t.Kind != api.KindSave || t.Flags != 0 || t.Object != behind.Object ||
		t.Chunk != behind.Chunk-1 || t.Begin != behind.Begin || t.Serial >= behind.Serial {
		return scan.Leaf{}, false
	}
	return x, true
}

func linkOf(part scan.Leaf) []byte { return part.Look.Data[:linkBytes] }

// noLink is what stands in the first part instead of one.
func noLink() []byte { return []byte{255, 255, 255, 255} }

// placeIn tells the place that a link's bytes are, two a number.
func placeIn(link []byte) api.Place {
	block, _ := words.Get(link, 0, placeBytes)
	page, _ := words.Get(link, placeBytes, placeBytes)
	return api.Place{Block: int(block), Page: int(page)}
}

// content tells what a part's page has of a state's bytes.
func content(part scan.Leaf) []byte {
	return part.Look.Data[linkBytes:part.Look.Tags.Count]
}

func empty(part scan.Leaf) bool { return len(content(part)) == 0 }

func joined(parts []scan.Leaf) []byte {
	var rows [][]byte
	for _, p := range parts {
		rows = append(rows, content(p))
	}
	return words.Join(rows...)
}

// fits tells whether a checkpoint's blocks may be the chip's: as many, in states that a next life may find, marked where they must be and nowhere else but where they are free.
func (f *finder) fits(blocks []api.Block) bool {
	if len(blocks) != len(f.marks) {
		return false
	}
	for n, x := range blocks {
		switch x.State {
		case api.BlockFree:
		case api.BlockUsed:
			if f.marks[n] {
				return false
			}
		case api.BlockBad:
			if !f.marks[n] {
				return false
			}
		default:
			return false
		}
	}
	return true
}

// resumed tells a checkpoint's state as its own pages have left it.
func (f *finder) resumed(s api.State, parts []scan.Leaf) api.State {
	for n, x := range s.Blocks {
		if x.State == api.BlockFree && f.marks[n] {
			s.Blocks[n] = api.Block{State: api.BlockBad}
		}
	}
	for _, p := range parts {
		x := &s.Blocks[p.Place.Block]
		if x.State == api.BlockFree {
			*x = api.Block{State: api.BlockUsed, Head: f.heads[p.Place.Block]}
		}
		x.Real = true
	}
	last := parts[len(parts)-1]
	s.Next = last.Look.Tags.Serial + 1
	s.Cursor, s.Last = last.Place.Block, last.Place.Block
	return s
}
