package point

import (
	"shale/api"
	"shale/node"
)

// mayBePacked tells whether a state has its place in a checkpoint's bytes.
func mayBePacked(s api.State) bool {
	most := len(s.Blocks) - 1
	if s.Floor > api.MaxSerial || s.Next > api.MaxSerial+1 || len(s.Blocks) > api.MaxBlocks ||
		!within(s.Cursor, -1, most) || !within(s.Last, -1, most) {
		return false
	}
	for _, x := range s.Blocks {
		if !blockMayBe(x) {
			return false
		}
	}
	return objectsMayBe(s.Objects)
}

func within(n, least, most int) bool { return n >= least && n <= most }

func blockMayBe(x api.Block) bool {
	return within(x.State, api.BlockFree, api.BlockBad) && x.Head <= api.MaxSerial && within(x.Live, 0, api.MaxPages)
}

func objectsMayBe(list []api.Object) bool {
	ahead := api.Root
	for _, o := range list {
		if !within(o.Id, ahead+1, api.MaxObject) || !headerMayBe(o) || !chunksMayBe(o.Chunks) {
			return false
		}
		ahead = o.Id
	}
	return true // numbers that rise are no more than the limit
}

func headerMayBe(o api.Object) bool {
	if !o.Head {
		return o.Node == api.Node{} && o.Place == api.Place{}
	}
	return node.Check(o.Node) == api.OK && o.Node.Shadow == 0 && placeMayBe(o.Place)
}

func chunksMayBe(list []api.Chunk) bool {
	ahead := -1
	for _, c := range list {
		if !within(c.Chunk, ahead+1, api.MaxChunk) || !placeMayBe(c.Piece.Place) || !within(c.Piece.Count, 0, api.Sector*api.MaxSectors) {
			return false
		}
		ahead = c.Chunk
	}
	return len(list) <= api.MaxCells
}

// placeMayBe: of some geometry, as a state does not tell its own.
func placeMayBe(p api.Place) bool {
	return within(p.Block, 0, api.MaxBlocks-1) && within(p.Page, 0, api.MaxPages-1)
}
