package files

import (
	"slices"
	"testing"

	"shale/api"
)

// trace fails unless the last commands are these.
func (b *bench) trace(want ...api.Command) {
	b.t.Helper()
	all := b.c.Trace()
	if got := all[max(0, len(all)-len(want)):]; !slices.Equal(got, want) {
		b.t.Errorf("the last commands are %v, want %v", got, want)
	}
}

func erase(block int) api.Command { return api.Command{Kind: api.CmdErase, Block: block} }

func program(block, page int) api.Command {
	return api.Command{Kind: api.CmdProgram, Block: block, Page: page}
}

// usage fails unless it is so full.
func (b *bench) usage(good, live, limit int) {
	b.t.Helper()
	if u, e := b.Usage(); u != (api.Usage{Good: good, Live: live, Limit: limit}) || e != api.OK {
		b.t.Errorf("Usage: %v, %d, want %d, %d, %d", u, e, good, live, limit)
	}
}

// The document's examples of the whole, as calls of a disk: each change is one page.
func TestExampleEachChangeIsOnePage(t *testing.T) {
	b := begun(t, small())
	b.usage(12, 0, 15)
	b.trace(erase(0), program(0, 0))
	b.dirs("/d")
	b.opens("/d/a", 7, 1)
	b.writes(1, 254, "ABCD")
	b.reads(1, 250, 9, "\x00\x00\x00\x00ABCD")
	b.is("Rename", b.Rename("/d/a", "/d/b c"), api.OK)
	b.link("/l", "d/b c")
	b.stats("/l", api.Stat{Id: 3, Type: api.TypeFile, Size: 258, Mode: 420})
	b.trace(erase(2), program(2, 0), program(2, 1), program(2, 2), program(2, 3))
	if n := b.c.Count(); n != 12 {
		t.Errorf("%d commands", n)
	}
}

// The power goes in the midst of the second page of a write: what was written ahead of it stays.
func TestExampleThePowerGoes(t *testing.T) {
	b := begun(t, small(), api.Fault{At: 6, Kind: api.FaultCut, Fill: 15})
	b.opens("/f", 7, 1)
	if n, e := b.Write(1, 0, make([]byte, 600)); n != 256 || e != api.ErrOff {
		t.Errorf("Write: %d, %d", n, e)
	}
	b.again().stats("/f", api.Stat{Id: 2, Type: api.TypeFile, Size: 256, Mode: 420})
}

// A page fails: it is written elsewhere, and its block is marked.
func TestExampleAPageFails(t *testing.T) {
	b := begun(t, small(), api.Fault{At: 4, Kind: api.FaultFail})
	b.opens("/f", 7, 1)
	b.writes(1, 0, "0123456789")
	b.reads(1, 0, 99, "0123456789")
	b.usage(11, 2, 12)
	broken := program(1, 1)
	broken.Status = api.ErrFailed
	b.trace(program(0, 0), erase(1), program(1, 0), broken, erase(2), program(2, 0), api.Command{Kind: api.CmdMark, Block: 1}, program(2, 1), program(2, 2))
}

// What is unlinked lives as long as it is open, and is gone behind a cut.
func TestExampleUnlinked(t *testing.T) {
	b := begun(t, small())
	b.opens("/f", 7, 1)
	b.writes(1, 0, "abc")
	b.is("Unlink", b.Unlink("/f"), api.OK)
	b.reads(1, 0, 9, "abc")
	b.missing("/f")
	b.opens("/g", 6, 2)
	b.stats("/g", api.Stat{Id: 3, Type: api.TypeFile, Mode: 420})
	b = b.again()
	b.tree("/g")
	if got := b.objects(); !slices.Equal(got, []int{3}) {
		t.Errorf("the objects %v", got)
	}
}

// Bits turn round, one a unit: nothing is read otherwise.
func TestExampleBitsTurnRound(t *testing.T) {
	b := begun(t, small())
	b.opens("/f", 7, 1)
	b.writes(1, 0, "abc")
	at := api.Place{Block: 1, Page: 2}
	b.is("Flip", b.c.Flip(at, 0), api.OK)
	b.is("Flip in the same unit", b.c.Flip(at, 1), api.ErrFlip)
	b.is("Flip", b.c.Flip(at, 2050), api.OK)
	b.reads(1, 0, 9, "abc")
	b.again().tree("/f")
}

// A checkpoint, a mount by it; what is cut off stays cut off.
func TestExampleCheckpoint(t *testing.T) {
	b := begun(t, small())
	b.opens("/f", 7, 1)
	b.writes(1, 0, "abcd")
	b.is("Truncate", b.Truncate(1, 2), api.OK)
	b.is("Unmount", b.Unmount(), api.OK)
	b = b.again()
	b.opens("/f", 3, 1)
	b.is("Truncate", b.Truncate(1, 4), api.OK)
	b.reads(1, 0, 9, "ab\x00\x00")
}
