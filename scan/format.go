package scan

import (
	"shale/api"
	"shale/chip"
	"shale/leaf"
)

// Format makes an empty file system: one head that begins with itself, so that nothing ahead of it counts any more.
func Format(c *chip.Chip) api.Errno {
	s, e := Mount(c)
	if e == api.ErrNone {
		s, e = bare(c)
	}
	if e != api.OK {
		return e
	}
	serial := s.Next
	for _, block := range freeFrom(s) {
		if serial > api.MaxSerial {
			break
		}
		e := c.Erase(block)
		if e == api.OK {
			e = writeHead(c, block, serial)
			serial++ // a head that has failed may be whole all the same
		}
		if e == api.OK || e == api.ErrOff {
			return e
		}
		if c.Mark(block) == api.ErrOff {
			return api.ErrOff
		}
	}
	return api.ErrBroken
}

// bare is how it stands with a chip on which there is no file system.
func bare(c *chip.Chip) (api.State, api.Errno) {
	s := api.State{Next: 1, Cursor: -1, Blocks: make([]api.Block, c.Geometry().Blocks)}
	for n := range s.Blocks {
		marked, e := c.Marked(n)
		if e != api.OK {
			return api.State{}, e
		}
		if marked {
			s.Blocks[n].State = api.BlockBad
		}
	}
	return s, api.OK
}

// freeFrom tells the free blocks, in turn from the one behind the cursor on.
func freeFrom(s api.State) []int {
	var list []int
	for n := range s.Blocks {
		block := (s.Cursor + 1 + n) % len(s.Blocks)
		if s.Blocks[block].State == api.BlockFree {
			list = append(list, block)
		}
	}
	return list
}

func writeHead(c *chip.Chip, block int, serial uint64) api.Errno {
	page, e := leaf.Build(c.Geometry(), api.Tags{Kind: api.KindHead, Serial: serial, Begin: serial}, nil)
	if e != api.OK {
		return e
	}
	return c.Program(api.Place{Block: block}, page)
}
