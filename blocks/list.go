package blocks

import "shale/api"

// shapeMayBe asks for the product last, when both parts are known to be small.
func shapeMayBe(g api.Geometry) bool {
	return g.Blocks >= api.MinBlocks && g.Blocks <= api.MaxBlocks &&
		g.Pages >= api.MinPages && g.Pages <= api.MaxPages &&
		g.Sectors >= 1 && g.Sectors <= api.MaxSectors &&
		g.Blocks*g.Pages <= api.MaxCells
}

// numberMayBe: a cursor, or a last block, may be none, too.
func numberMayBe(g api.Geometry, block int) bool { return block >= none && block < g.Blocks }

// listMayBe tells whether a list may be a chip's blocks beside a last block.
func listMayBe(g api.Geometry, list []api.Block, last int) bool {
	open := 0
	heads := make(map[uint64]struct{}, len(list))
	for n, x := range list {
		if !blockMayBe(g, x) || !lastMayBe(x.State, n == last) {
			return false
		}
		if x.State == api.BlockOpen {
			open++
		}
		if _, twice := heads[x.Head]; twice && x.Head > 0 {
			return false
		}
		heads[x.Head] = struct{}{}
	}
	return open <= 1
}

// lastMayBe: the last block holds what makes the copies count, so it is not to be taken, and no other one is held.
func lastMayBe(state int, isLast bool) bool {
	if isLast {
		return state != api.BlockFree && state != api.BlockBad
	}
	return state != api.BlockHeld
}

// blockMayBe tells whether a block is as its state wants it.
func blockMayBe(g api.Geometry, x api.Block) bool {
	switch x.State {
	case api.BlockFree, api.BlockHeld, api.BlockBad:
		return x == api.Block{State: x.State}
	case api.BlockLeaving:
		return headMayBe(x.Head) && x.Live == 0
	case api.BlockUsed:
		return headMayBe(x.Head) && liveMayBe(g, x.Live) && (x.Real || x.Live > 0)
	case api.BlockOpen, api.BlockWaiting:
		return headMayBe(x.Head) && liveMayBe(g, x.Live)
	}
	return false
}

func headMayBe(head uint64) bool { return head >= 1 && head <= api.MaxSerial }

// liveMayBe: a block's first page is its head, which is never current.
func liveMayBe(g api.Geometry, live int) bool { return live >= 0 && live <= g.Pages-1 }
