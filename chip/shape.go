package chip

import "shale/api"

// sumBytes is how many bytes of the spare a sector's sum takes.
const sumBytes = 3

// Spare tells how many bytes a page's spare has.
func Spare(g api.Geometry) (int, api.Errno) {
	if !mayBe(g) {
		return 0, api.ErrShape
	}
	return spareBytes(g), api.OK
}

// mayBe asks for the product last, when both parts are known to be small.
func mayBe(g api.Geometry) bool {
	return g.Blocks >= api.MinBlocks && g.Blocks <= api.MaxBlocks &&
		g.Pages >= api.MinPages && g.Pages <= api.MaxPages &&
		g.Sectors >= 1 && g.Sectors <= api.MaxSectors &&
		g.Blocks*g.Pages <= api.MaxCells
}

func dataBytes(g api.Geometry) int { return api.Sector * g.Sectors }

func spareBytes(g api.Geometry) int { return api.RailBytes + sumBytes*g.Sectors }

func pageBytes(g api.Geometry) int { return dataBytes(g) + spareBytes(g) }

// unitOf tells the unit of a page's bit: its sector's number; of the rails as many as there are sectors.
func unitOf(g api.Geometry, bit int) int {
	at, rails := bit/8, dataBytes(g)
	sums := rails + api.RailBytes
	switch {
	case at < rails:
		return at / api.Sector
	case at < sums:
		return g.Sectors
	}
	return (at - sums) / sumBytes
}
