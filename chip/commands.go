package chip

import (
	"slices"

	"shale/api"
	"shale/words"
)

// Program writes a page.
func (c *Chip) Program(p api.Place, page api.Page) api.Errno {
	if c.dark {
		return api.ErrOff
	}
	if len(page.Data) != dataBytes(c.shape) || len(page.Spare) != spareBytes(c.shape) {
		return api.ErrPage
	}
	return c.note(api.CmdProgram, p, c.program(p, page))
}

func (c *Chip) program(p api.Place, content api.Page) api.Errno {
	if !c.hasPage(p) {
		return api.ErrPlace
	}
	b := &c.blocks[p.Block]
	if b.marked || !b.ready || p.Page < b.next {
		return api.ErrRule
	}
	f := c.take()
	b.next = p.Page + 1
	left, _ := words.Fall(c.bits(p), words.Join(content.Data, content.Spare), f.Mask, f.Fill)
	b.pages[p.Page] = page{bits: left, holds: f.Kind == 0}
	return c.end(f)
}

// Erase erases a block.
func (c *Chip) Erase(block int) api.Errno {
	if c.dark {
		return api.ErrOff
	}
	return c.note(api.CmdErase, api.Place{Block: block}, c.erase(block))
}

func (c *Chip) erase(number int) api.Errno {
	if !c.hasBlock(number) {
		return api.ErrPlace
	}
	b := &c.blocks[number]
	if b.marked {
		return api.ErrRule
	}
	f := c.take()
	for i := range b.pages {
		delete(c.flips, api.Place{Block: number, Page: i})
		b.pages[i] = page{bits: c.risen(b.pages[i].bits, i, f)}
	}
	b.ready, b.next = f.Kind == 0, 0
	return c.end(f)
}

// risen tells what an erase leaves of the bits of a block's i-th page; the fault's mask is laid over all pages of the block.
func (c *Chip) risen(bits []byte, i int, f api.Fault) []byte {
	if bits == nil || f.Kind == 0 {
		return nil
	}
	ahead := min(i*pageBytes(c.shape), len(f.Mask))
	return words.Rise(bits, f.Mask[ahead:], f.Fill)
}

// Mark marks a block as bad.
func (c *Chip) Mark(block int) api.Errno {
	if c.dark {
		return api.ErrOff
	}
	return c.note(api.CmdMark, api.Place{Block: block}, c.mark(block))
}

func (c *Chip) mark(number int) api.Errno {
	if !c.hasBlock(number) {
		return api.ErrPlace
	}
	f := c.take()
	if words.Rise([]byte{0}, f.Mask, f.Fill)[0]&1 == 1 {
		c.blocks[number].marked = true
	}
	return c.end(f)
}

// Flip turns a bit round that has aged.
func (c *Chip) Flip(p api.Place, bit int) api.Errno {
	if !c.hasPage(p) {
		return api.ErrPlace
	}
	if bit < 0 || bit >= 8*pageBytes(c.shape) || !c.blocks[p.Block].pages[p.Page].holds {
		return api.ErrFlip
	}
	unit := unitOf(c.shape, bit)
	if slices.ContainsFunc(c.flips[p], func(other int) bool { return unitOf(c.shape, other) == unit }) {
		return api.ErrFlip
	}
	c.flips[p] = append(c.flips[p], bit)
	return api.OK
}

// take counts a command, and tells the fault that meets it.
func (c *Chip) take() api.Fault {
	f := c.script.meets(c.count)
	c.count++
	return f
}

// end tells what a command answers that a fault has met, and lets the power go, if it was cut.
func (c *Chip) end(f api.Fault) api.Errno {
	switch f.Kind {
	case api.FaultFail:
		return api.ErrFailed
	case api.FaultCut:
		c.dark = true
		return api.ErrOff
	}
	return api.OK
}

// note puts a command into the trace, and passes on its answer.
func (c *Chip) note(kind int, p api.Place, status api.Errno) api.Errno {
	c.trace = append(c.trace, api.Command{Kind: kind, Block: p.Block, Page: p.Page, Status: status})
	return status
}
