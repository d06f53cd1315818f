package tags

import "shale/api"

const (
	unitBits  = 8 * (api.Sector + 3) // of a sector with its sum: all of them may be 0
	leastSave = 4                    // bytes of a checkpoint's part
)

// Check tells whether tags may be, of pages of that geometry.
func Check(g api.Geometry, t api.Tags) api.Errno {
	if !shapeMayBe(g) {
		return api.ErrShape
	}
	if !serialsMayBe(t) || !fitsPage(g, t) || !kindMayBe(t) {
		return api.ErrField
	}
	return api.OK
}

// shapeMayBe asks for the product last, when both parts are known to be small.
func shapeMayBe(g api.Geometry) bool {
	return within(g.Blocks, api.MinBlocks, api.MaxBlocks) &&
		within(g.Pages, api.MinPages, api.MaxPages) &&
		within(g.Sectors, 1, api.MaxSectors) &&
		g.Blocks*g.Pages <= api.MaxCells
}

func within(n, least, most int) bool { return n >= least && n <= most }

func serialsMayBe(t api.Tags) bool {
	return t.Begin >= 1 && t.Begin <= t.Serial && t.Serial <= api.MaxSerial
}

func fitsPage(g api.Geometry, t api.Tags) bool {
	return within(t.Zeros, 0, unitBits*g.Sectors) && within(t.Count, 0, api.Sector*g.Sectors)
}

// kindMayBe asks for what each kind wants of the other fields.
func kindMayBe(t api.Tags) bool {
	switch t.Kind {
	case api.KindHead:
		return t.Flags == 0 && t.Object == 0 && t.Chunk == 0 && t.Count == 0
	case api.KindNode:
		return (t.Flags == 0 || t.Flags == api.FlagCopy) && ofObject(t) && t.Chunk == 0
	case api.KindData:
		return (t.Flags == 0 || t.Flags == api.FlagCopy || t.Flags == api.FlagCut) &&
			ofObject(t) && within(t.Chunk, 0, api.MaxChunk)
	case api.KindSave:
		return within(t.Object, 1, api.MaxCells) && within(t.Chunk, 0, t.Object-1) &&
			t.Flags == saveFlags(t) && t.Count >= leastSave
	}
	return false
}

// ofObject: the root has no pages of its own.
func ofObject(t api.Tags) bool { return within(t.Object, api.Root+1, api.MaxObject) && t.Count >= 1 }

// saveFlags tells the flags of a checkpoint's part: just the last one says that it is.
func saveFlags(t api.Tags) int {
	if t.Chunk == t.Object-1 {
		return api.FlagEnd
	}
	return 0
}
