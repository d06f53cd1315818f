package files

import (
	"math"
	"slices"
	"testing"

	"shale/api"
)

// F10: ErrCommand, ahead of ErrClosed, for what is no call of a disk.
func TestF10NoCalls(t *testing.T) {
	b := begun(t, small())
	for range 2 {
		for _, op := range []int{0, -1, api.CallMount, api.CallFormat, api.CallPower, 23, math.MaxInt, math.MinInt} {
			if r := b.Call(api.Call{Op: op, Path: "/f", Flags: 7}); !sameReply(r, api.Reply{E: api.ErrCommand}) {
				t.Errorf("Call of %d: %v", op, r)
			}
		}
		b.silent("what is no call")
		b.Unmount()
		b.seen = len(b.c.Trace())
	}
}

// F10: each call is made with the fields that are its own, and tells what it tells besides; other fields play no part.
func TestF10Calls(t *testing.T) {
	b := begun(t, roomy())
	noise := func(c api.Call) api.Call { // fields that are not the call's own
		own := map[int]string{
			api.CallOpen: "PFM", api.CallClose: "H", api.CallRead: "HAS", api.CallWrite: "HAD", api.CallTruncate: "HS", api.CallMkdir: "PM", api.CallRmdir: "P", api.CallUnlink: "P", api.CallRename: "PT", api.CallLink: "PT",
			api.CallTarget: "P", api.CallList: "P", api.CallStat: "P", api.CallLook: "P", api.CallChmod: "PM", api.CallTouch: "PX",
		}[c.Op]
		is := func(field byte) bool { return slices.Contains([]byte(own), field) }
		x := api.Call{Op: c.Op, Path: "bad", To: "bad", Handle: 77, At: -7, Size: -7, Data: []byte("bad"), Flags: -7, Mode: -7, Stamp: 77}
		if is('P') {
			x.Path = c.Path
		}
		if is('T') {
			x.To = c.To
		}
		if is('H') {
			x.Handle = c.Handle
		}
		if is('A') {
			x.At = c.At
		}
		if is('S') {
			x.Size = c.Size
		}
		if is('D') {
			x.Data = c.Data
		}
		if is('F') {
			x.Flags = c.Flags
		}
		if is('M') {
			x.Mode = c.Mode
		}
		if is('X') {
			x.Stamp = c.Stamp
		}
		return x
	}
	stat := api.Stat{Id: 2, Type: api.TypeFile, Size: 7, Mode: 7, Stamp: 9}
	for i, x := range []struct {
		c    api.Call
		want api.Reply
	}{
		{api.Call{Op: api.CallOpen, Path: "/f", Flags: 7, Mode: 420}, api.Reply{Number: 1}},
		{api.Call{Op: api.CallOpen, Path: "/f", Flags: 3}, api.Reply{Number: 2}},
		{api.Call{Op: api.CallWrite, Handle: 1, At: 3, Data: []byte("abcdef")}, api.Reply{Number: 6}},
		{api.Call{Op: api.CallRead, Handle: 2, At: 2, Size: 4}, api.Reply{Data: []byte("\x00abc")}},
		{api.Call{Op: api.CallTruncate, Handle: 1, Size: 7}, api.Reply{}},
		{api.Call{Op: api.CallClose, Handle: 1}, api.Reply{}},
		{api.Call{Op: api.CallMkdir, Path: "/d", Mode: 5}, api.Reply{}},
		{api.Call{Op: api.CallMkdir, Path: "/e", Mode: 5}, api.Reply{}},
		{api.Call{Op: api.CallRmdir, Path: "/e"}, api.Reply{}},
		{api.Call{Op: api.CallRename, Path: "/f", To: "/d/g"}, api.Reply{}},
		{api.Call{Op: api.CallLink, Path: "/l", To: "d/g"}, api.Reply{}},
		{api.Call{Op: api.CallTarget, Path: "/l"}, api.Reply{Text: "d/g"}},
		{api.Call{Op: api.CallList, Path: "/"}, api.Reply{Entries: []api.Entry{{Name: "d", Id: 3, Type: api.TypeDir}, {Name: "l", Id: 4, Type: api.TypeLink}}}},
		{api.Call{Op: api.CallChmod, Path: "/l", Mode: 7}, api.Reply{}},
		{api.Call{Op: api.CallTouch, Path: "/l", Stamp: 9}, api.Reply{}},
		{api.Call{Op: api.CallStat, Path: "/l"}, api.Reply{Stat: stat}},
		{api.Call{Op: api.CallLook, Path: "/l"}, api.Reply{Stat: api.Stat{Id: 4, Type: api.TypeLink, Mode: 511}}},
		{api.Call{Op: api.CallUnlink, Path: "/l"}, api.Reply{}},
		{api.Call{Op: api.CallStat, Path: "/l"}, api.Reply{E: api.ErrMissing}},
		{api.Call{Op: api.CallUsage}, api.Reply{Usage: api.Usage{Good: 60, Live: 3, Limit: 53 * 7}}},
		{api.Call{Op: api.CallSync}, api.Reply{}},
		{api.Call{Op: api.CallUnmount}, api.Reply{}},
		{api.Call{Op: api.CallUnmount}, api.Reply{E: api.ErrClosed}},
	} {
		if got := b.Call(noise(x.c)); !sameReply(got, x.want) {
			t.Errorf("F10: %d: %v: %v, want %v", i, x.c, got, x.want)
		}
	}
	b.again().tree("/d", "/d/g")
}

// F10, F4: of a Write that ends in its midst the number is told beside the error.
func TestF10WriteTellsBesideAnError(t *testing.T) {
	b := begun(t, small())
	b.opens("/f", 7, 1)
	if r := b.Call(api.Call{Op: api.CallWrite, Handle: 1, Data: make([]byte, 4000)}); !sameReply(r, api.Reply{E: api.ErrSpace, Number: 3584}) {
		t.Errorf("%v", r)
	}
}
