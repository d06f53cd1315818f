package scan

import (
	"shale/api"
	"shale/chip"
)

// sight is what was seen of a chip.
type sight struct {
	leaves []Leaf   // those of blocks that have a head, by place
	heads  []uint64 // of each block its head's serial; 0: it has none
	marks  []bool
	floor  uint64
}

func sightOf(c *chip.Chip) (sight, api.Errno) {
	all, e := Leaves(c)
	if e != api.OK {
		return sight{}, e
	}
	blocks := c.Geometry().Blocks
	s := sight{heads: make([]uint64, blocks), marks: make([]bool, blocks)}
	for n := range blocks {
		if s.marks[n], e = c.Marked(n); e != api.OK {
			return sight{}, e
		}
	}
	for _, x := range all {
		s.see(x)
	}
	return s, api.OK
}

// see takes a leaf in; they come by place, so that a block's head is the first of its leaves.
func (s *sight) see(x Leaf) {
	t := x.Look.Tags
	if x.Place.Page == 0 && t.Kind == api.KindHead {
		s.heads[x.Place.Block] = t.Serial
	}
	if s.heads[x.Place.Block] == 0 {
		return
	}
	s.leaves = append(s.leaves, x)
	if isReal(x) {
		s.floor = max(s.floor, t.Begin)
	}
}

// isHead: of a leaf in a block that has a head.
func isHead(x Leaf) bool { return x.Place.Page == 0 }

// isReal: of a leaf in a block that has a head. (A page of the heads' kind elsewhere says nothing.)
func isReal(x Leaf) bool {
	t := x.Look.Tags
	return isHead(x) || t.Kind != api.KindHead && t.Flags&api.FlagCopy == 0
}

// counts: what is new counts from the floor on; a copy only once its clean was done, which the floor tells.
func (s *sight) counts(x Leaf) bool {
	t := x.Look.Tags
	return t.Kind != api.KindHead && t.Serial >= s.floor && (isReal(x) || t.Begin <= s.floor)
}

// counted tells the leaves that count, by rising serial.
func (s *sight) counted() []Leaf {
	var list []Leaf
	for _, x := range s.leaves {
		if s.counts(x) {
			list = append(list, x)
		}
	}
	bySerial(list)
	return list
}

// newest tells the leaf with the greatest serial.
func (s *sight) newest() Leaf {
	return s.greatest(func(Leaf) bool { return true })
}

// last tells the real leaf with the greatest serial among those that know of the floor.
func (s *sight) last() Leaf {
	return s.greatest(func(x Leaf) bool { return isReal(x) && x.Look.Tags.Begin == s.floor })
}

// greatest tells, of the leaves that are so, the one with the greatest serial; of several the last one.
func (s *sight) greatest(so func(Leaf) bool) Leaf {
	var best Leaf
	for _, x := range s.leaves {
		if so(x) && x.Look.Tags.Serial >= best.Look.Tags.Serial {
			best = x
		}
	}
	return best
}

// blocks tells how it stands with each block, of which so many pages are current.
func (s *sight) blocks(live map[int]int, last int) []api.Block {
	fresh := s.fresh()
	list := make([]api.Block, len(s.heads))
	for n := range list {
		switch {
		case s.marks[n]:
			list[n].State = api.BlockBad
		case fresh[n] > 0 || live[n] > 0:
			list[n] = api.Block{State: api.BlockUsed, Head: s.heads[n], Real: fresh[n] > 0, Live: live[n]}
		case n == last:
			list[n].State = api.BlockHeld
		}
	}
	return list
}

// fresh tells of blocks how many of their pages, but heads, are real and of the floor or above.
func (s *sight) fresh() map[int]int {
	count := map[int]int{}
	for _, x := range s.leaves {
		if isReal(x) && !isHead(x) && x.Look.Tags.Serial >= s.floor {
			count[x.Place.Block]++
		}
	}
	return count
}
