package files

import (
	"math"
	"math/rand"
	"slices"
	"strings"
	"testing"

	"shale/api"
	"shale/chip"
	"shale/log"
	"shale/scan"
)

// F1: Format is scan's, Mount is volume's.
func TestF1FormatAndMount(t *testing.T) {
	c := newChip(t, small())
	if d, e := Mount(c); d != nil || e != api.ErrNone {
		t.Errorf("Mount of a blank chip: %v, %d", d, e)
	}
	b := begun(t, small())
	if want := []api.Command{{Kind: api.CmdErase}, {Kind: api.CmdProgram}}; !slices.Equal(b.c.Trace(), want) {
		t.Errorf("Format: %v, want %v", b.c.Trace(), want)
	}
	b.tree()
	b.stats("/", api.Stat{Id: 1, Type: api.TypeDir, Mode: 493})
	b.is("a disk without handles", b.Close(1), api.ErrHandle)
	b.file("/f", "bytes")
	b.is("Format again", Format(b.c), api.OK)
	b.again().tree()
	bad, e := chip.New(small(), []int{0, 1, 2, 3, 4, 5, 6, 7, 8, 9, 10, 11}, nil)
	if e != api.OK || Format(bad) != api.ErrBroken || Format(bad) != scan.Format(bad) {
		t.Errorf("Format of a chip without good blocks: %d", Format(bad))
	}
	off := newChip(t, small(), api.Fault{At: 0, Kind: api.FaultCut})
	off.Erase(0)
	if d, e := Mount(off); d != nil || e != api.ErrOff || Format(off) != api.ErrOff {
		t.Errorf("without power: %v, %d, %d", d, e, Format(off))
	}
}

// everyCall makes each call once, with arguments that are wrong besides, and tells the answers; what else they tell must be zero.
func everyCall(b *bench) []api.Errno {
	b.t.Helper()
	var list []api.Errno
	add := func(zero bool, e api.Errno) {
		b.t.Helper()
		if !zero {
			b.t.Errorf("R2: the call %d tells something beside the error %d", len(list), e)
		}
		list = append(list, e)
	}
	h, e := b.Open("", -1, -1)
	add(h == 0, e)
	add(true, b.Close(-1))
	data, e := b.Read(99, -1, -1)
	add(data == nil, e)
	n, e := b.Write(99, -1, []byte("x"))
	add(n == 0, e)
	add(true, b.Truncate(99, -1))
	add(true, b.Mkdir("", -1))
	add(true, b.Rmdir(""))
	add(true, b.Unlink(""))
	add(true, b.Rename("", ""))
	add(true, b.Link("", ""))
	text, e := b.Target("")
	add(text == "", e)
	entries, e := b.List("")
	add(entries == nil, e)
	s, e := b.Stat("")
	add(s == api.Stat{}, e)
	s, e = b.Look("")
	add(s == api.Stat{}, e)
	add(true, b.Chmod("", -1))
	add(true, b.Touch("", 0))
	return list
}

// F2: every call of a disk that was unmounted answers ErrClosed, ahead of all other errors.
func TestF2Closed(t *testing.T) {
	b := begun(t, small())
	want := []api.Errno{api.ErrFlags, api.ErrHandle, api.ErrHandle, api.ErrHandle, api.ErrHandle}
	want = append(want, slices.Repeat([]api.Errno{api.ErrPath}, 11)...)
	if got := everyCall(b); !slices.Equal(got, want) {
		t.Errorf("%v, want %v", got, want)
	}
	b.silent("what is refused")
	b.opens("/f", 7, 1)
	b.is("Unmount", b.Unmount(), api.OK)
	b.seen = len(b.c.Trace())
	if got := everyCall(b); !slices.Equal(got, slices.Repeat([]api.Errno{api.ErrClosed}, 16)) {
		t.Errorf("F2: %v", got)
	}
	b.is("Close of a handle that was open", b.Close(1), api.ErrClosed)
	b.is("Sync", b.Sync(), api.ErrClosed)
	b.is("Unmount again", b.Unmount(), api.ErrClosed)
	if u, e := b.Usage(); u != (api.Usage{}) || e != api.ErrClosed {
		t.Errorf("Usage: %v, %d", u, e)
	}
	if l, e := b.Tree(); l != nil || e != api.ErrClosed {
		t.Errorf("Tree: %v, %d", l, e)
	}
	if s, e := b.State(); s.Blocks != nil || s.Next != 0 || e != api.ErrClosed {
		t.Errorf("State: %v, %d", s, e)
	}
	for op := api.CallOpen; op <= api.CallUnmount; op++ {
		if r := b.Call(api.Call{Op: op, Flags: -1}); !sameReply(r, api.Reply{E: api.ErrClosed}) {
			t.Errorf("Call of %d: %v", op, r)
		}
	}
	b.silent("a disk that was unmounted")
}

// F2: Unmount closes the handles, so that what is unlinked is gone, and writes a checkpoint, which the next mount finds.
func TestF2UnmountAndSync(t *testing.T) {
	b := begun(t, roomy())
	b.opens("/a", 7, 1)
	b.opens("/b", 7, 2)
	b.writes(1, 0, "bytes")
	b.is("Unlink", b.Unlink("/b"), api.OK)
	b.is("Sync", b.Sync(), api.OK)
	b.reads(1, 0, 9, "bytes")
	b.writes(2, 0, "still there")
	b.reads(2, 0, 99, "still there")
	n := b.c.Count()
	b.is("Unmount", b.Unmount(), api.OK)
	if b.c.Count() == n {
		t.Error("F2: Unmount writes no checkpoint")
	}
	next := b.again()
	next.tree("/a")
	if got := next.objects(); !slices.Equal(got, []int{2}) {
		t.Errorf("the objects %v", got)
	}
	next.is("the next life's handles", next.Close(1), api.ErrHandle)
	next.is("Unmount", next.Unmount(), api.OK)
}

// F2: the answer is volume.Sync's error, and the disk is unmounted all the same; where there is no room for a checkpoint, nothing is told of it.
func TestF2UnmountCut(t *testing.T) {
	for _, at := range []int{2, 3, 4} {
		b := begun(t, small(), api.Fault{At: at, Kind: api.FaultCut, Fill: 85})
		b.is("an Unmount that is cut", b.Unmount(), api.ErrOff)
		b.is("behind it", b.Unmount(), api.ErrClosed)
		b.again().tree()
	}
	b := begun(t, small(), api.Fault{At: 2, Kind: api.FaultCut})
	b.is("a Sync that is cut", b.Sync(), api.ErrOff)
	b.is("Sync behind it", b.Sync(), api.OK) // the log is halted: there is no checkpoint, and no error
	b.is("Unmount behind it", b.Unmount(), api.OK)
	full := begun(t, small())
	full.opens("/f", 7, 1)
	full.Write(1, 0, []byte(letters(9999)))
	full.is("Sync of a full disk", full.Sync(), api.OK)
	full.is("Unmount of a full disk", full.Unmount(), api.OK)
}

// F3: flags, all of them; ErrFlags ahead of all but ErrClosed.
func TestF3Flags(t *testing.T) {
	b := begun(t, roomy())
	b.file("/f", "bytes")
	b.seen = len(b.c.Trace())
	for flags := -3; flags < 40; flags++ {
		has := func(f int) bool { return flags&f != 0 }
		may := flags >= 1 && flags <= 31 && (has(1) || has(2)) && (has(4) || !has(8)) && (has(2) || !has(16))
		want := api.ErrFlags
		if may {
			want = api.ErrPath
		}
		b.shut("", flags, 0, want)
	}
	for _, flags := range []int{math.MinInt, math.MaxInt, 1 << 31, 1<<32 + 1, -31, 33, 64 + 3} {
		b.shut("/f", flags, 420, api.ErrFlags)
	}
	b.silent("flags that may not be")
}

// F3: without OpenCreate the path is walked through.
func TestF3OpenWhatIsThere(t *testing.T) {
	b := grove(t)
	b.opens("/f", api.OpenRead, 1)
	b.opens("/d/../lf", api.OpenWrite, 2)
	b.opens("/ld/g", api.OpenRead|api.OpenWrite, 3)
	b.shut("/x", api.OpenRead, 420, api.ErrMissing)
	b.shut("/x/y", api.OpenRead, 420, api.ErrMissing)
	b.shut("/f/y", api.OpenRead, 420, api.ErrNotDir)
	b.shut("/f/..", api.OpenRead, 420, api.ErrNotDir)
	b.shut("/none", api.OpenRead, 420, api.ErrMissing)
	b.shut("/loop", api.OpenRead, 420, api.ErrLoop)
	b.shut("/", api.OpenRead, 420, api.ErrIsDir)
	b.shut("/d", api.OpenRead|api.OpenWrite|api.OpenEmpty, 420, api.ErrIsDir)
	b.shut("/ld/", api.OpenRead, 420, api.ErrIsDir)
	b.shut("f", api.OpenRead, 420, api.ErrPath)
	b.shut("/"+letters(64), api.OpenRead, 420, api.ErrLong)
	b.silent("Open without OpenCreate")
}

// F3: with OpenCreate the place of the path is looked at; a link that stands there is followed, and nothing is made behind it.
func TestF3OpenCreate(t *testing.T) {
	b := grove(t)
	const read, create, fresh = api.OpenRead, api.OpenRead | api.OpenCreate, api.OpenRead | api.OpenCreate | api.OpenNew
	b.opens("/f", create, 1)
	b.opens("/lf", create, 2)
	for _, p := range []string{"/f", "/d", "/lf", "/ld", "/none", "/loop", "/ld/g"} {
		b.shut(p, fresh, 420, api.ErrExists)
	}
	b.shut("/none", create, 420, api.ErrMissing)
	b.shut("/loop", create, 420, api.ErrLoop)
	b.shut("/d", create, -1, api.ErrIsDir) // mode is not looked at
	b.shut("/ld", create, 420, api.ErrIsDir)
	b.shut("/", create, 420, api.ErrPath)
	b.shut("/d/..", create, 420, api.ErrPath)
	b.shut("/d/.", fresh, 420, api.ErrExists)
	b.shut("/x/y", create, 420, api.ErrMissing)
	b.shut("/f/y", create, 420, api.ErrNotDir)
	b.shut("/lf/y", create, 420, api.ErrNotDir)
	b.shut("/none/y", create, 420, api.ErrMissing)
	b.shut("/loop/y", create, 420, api.ErrLoop)
	for _, mode := range []int{-1, 4096, math.MaxInt, math.MinInt} {
		b.shut("/n", create, mode, api.ErrNode)
		b.shut("/n", fresh, mode, api.ErrNode)
	}
	b.silent("what is refused, or there")
	b.opens("/lf", create, 3)
	if h, e := b.Open("/ld/n", fresh, 4095); h != 4 || e != api.OK {
		t.Errorf("%d, %d", h, e)
	}
	b.gives("what is made", 1)
	b.stats("/d/n", api.Stat{Id: 10, Type: api.TypeFile, Mode: 4095})
	b.opens("/n/", api.OpenWrite|api.OpenCreate|api.OpenEmpty, 5)
	b.gives("what is made and empty", 1)
	b.is("Write", writeError(b, 4), api.ErrMode)
}

func writeError(b *bench, h int) api.Errno {
	_, e := b.Write(h, 0, []byte("x"))
	return e
}

// F3: OpenEmpty cuts what is there; other handles see it.
func TestF3OpenEmpty(t *testing.T) {
	b := grove(t)
	b.opens("/f", api.OpenRead, 1)
	b.reads(1, 0, 9, "of f")
	b.opens("/lf", api.OpenWrite|api.OpenEmpty, 2)
	b.gives("OpenEmpty", 1)
	b.reads(1, 0, 9, "")
	b.opens("/f", api.OpenWrite|api.OpenEmpty|api.OpenCreate, 3)
	b.gives("OpenEmpty of what is empty", 0)
	b.stats("/f", api.Stat{Id: 2, Type: api.TypeFile, Mode: 420})
}

// F3: the least number that is not open; MaxHandles at most, which is asked behind the flags and ahead of the path.
func TestF3HandlesNumbers(t *testing.T) {
	b := begun(t, roomy())
	b.opens("/f", 7, 1)
	for h := 2; h <= api.MaxHandles; h++ {
		b.opens("/f", api.OpenRead, h)
	}
	b.seen = len(b.c.Trace())
	b.shut("/f", api.OpenRead, 0, api.ErrMany)
	b.shut("/n", 7, 0, api.ErrMany)
	b.shut("", api.OpenRead, 0, api.ErrMany)
	b.shut("/f", 0, 0, api.ErrFlags)
	b.silent("too many")
	for _, h := range []int{40, 7, 64, 1} {
		b.is("Close", b.Close(h), api.OK)
		b.is("Close again", b.Close(h), api.ErrHandle)
	}
	for _, h := range []int{1, 7, 40, 64} {
		b.opens("/f", api.OpenRead, h)
	}
	b.shut("/f", api.OpenRead, 0, api.ErrMany)
	b.is("Close", b.Close(9), api.OK)
	b.shut("/x", api.OpenRead, 0, api.ErrMissing)
	b.opens("/f", api.OpenRead, 9) // an Open that was refused has taken no number
}

// F4: handles that are not open, or not for that, in this order; then volume's errors.
func TestF4Refused(t *testing.T) {
	b := grove(t)
	b.opens("/f", api.OpenRead, 1)
	b.opens("/f", api.OpenWrite, 2)
	b.opens("/f", api.OpenRead|api.OpenWrite, 3)
	b.is("Close", b.Close(3), api.OK)
	for _, h := range []int{0, -1, 3, 4, 64, 65, math.MaxInt, math.MinInt} {
		_, e := b.Read(h, -1, -1)
		b.is("Read", e, api.ErrHandle)
		b.is("Write", writeError(b, h), api.ErrHandle)
		b.is("Truncate", b.Truncate(h, -1), api.ErrHandle)
		b.is("Close", b.Close(h), api.ErrHandle)
	}
	if got, e := b.Read(2, -1, -1); got != nil || e != api.ErrMode {
		t.Errorf("Read of one for writing: %q, %d", got, e)
	}
	if n, e := b.Write(1, -1, []byte("x")); n != 0 || e != api.ErrMode {
		t.Errorf("Write of one for reading: %d, %d", n, e)
	}
	b.is("Truncate of one for reading", b.Truncate(1, -1), api.ErrMode)
	for _, x := range [][2]int{{-1, 5}, {0, -1}, {math.MinInt, math.MinInt}} {
		if got, e := b.Read(1, x[0], x[1]); got != nil || e != api.ErrRange {
			t.Errorf("Read(1, %v): %q, %d", x, got, e)
		}
	}
	for at, want := range map[int]api.Errno{-1: api.ErrRange, math.MinInt: api.ErrRange, 256 << 20: api.ErrBig, math.MaxInt: api.ErrBig} {
		if n, e := b.Write(2, at, []byte("x")); n != 0 || e != want {
			t.Errorf("Write(2, %d): %d, %d, want %d", at, n, e, want)
		}
	}
	for size, want := range map[int]api.Errno{-1: api.ErrRange, 256<<20 + 1: api.ErrBig, math.MaxInt: api.ErrBig} {
		b.is("Truncate", b.Truncate(2, size), want)
	}
	b.silent("what is refused")
	b.reads(1, 0, math.MaxInt, "of f")
	b.reads(1, math.MaxInt, math.MaxInt, "")
}

// F4: bytes are written, read, cut and made longer; of a Write that finds no room the bytes that are there are told.
func TestF4Bytes(t *testing.T) {
	b := begun(t, small())
	b.opens("/f", 7, 1)
	b.writes(1, 300, "xy")
	b.gives("the header and a chunk", 2)
	b.reads(1, 298, 9, "\x00\x00xy")
	b.is("Truncate", b.Truncate(1, 301), api.OK)
	b.is("Truncate", b.Truncate(1, 303), api.OK)
	b.gives("two cuts", 2)
	b.reads(1, 0, 999, zeros(300)+"x\x00\x00")
	b.writes(1, 5, "")
	b.is("Truncate to what it is", b.Truncate(1, 303), api.OK)
	b.gives("nothing", 0)
	if n, e := b.Write(1, 10, []byte(letters(5000))); n != 14*256-10 || e != api.ErrSpace {
		t.Errorf("Write: %d, %d, want %d bytes", n, e, 14*256-10)
	}
	b.stats("/f", api.Stat{Id: 2, Type: api.TypeFile, Size: 14 * 256, Mode: 420})
	if u, e := b.Usage(); u != (api.Usage{Good: 12, Live: 15, Limit: 15}) || e != api.OK {
		t.Errorf("Usage: %v, %d", u, e)
	}
	b.is("no room", b.Mkdir("/d", 0), api.ErrSpace)
	b.shut("/g", 7, 0, api.ErrSpace)
	b.is("a step that needs no page more", b.Touch("/f", 9), api.OK)
	b.is("room again", b.Truncate(1, 300), api.OK)
	b.is("room again", b.Mkdir("/d", 0), api.OK)
}

// R4: what is handed in is neither kept nor changed; what is told is new.
func TestF4AnswersAreNew(t *testing.T) {
	b := begun(t, roomy())
	b.opens("/f", 7, 1)
	data := []byte("0123456789")
	b.writes(1, 0, string(data[:5]))
	if n, e := b.Write(1, 0, data[:5]); n != 5 || e != api.OK || string(data) != "0123456789" {
		t.Errorf("%d, %d, %q", n, e, data)
	}
	data[0] = 'x'
	one, _ := b.Read(1, 0, 9)
	one[1] = 'y'
	b.reads(1, 0, 9, "01234")
	tree, _ := b.Tree()
	tree[1].Data[0] = 'z'
	_ = append(tree[1].Data, 'z')
	tree[0].Path = "changed"
	list, _ := b.List("/")
	list[0].Name = "changed"
	b.tree("/f")
	b.reads(1, 0, 9, "01234")
}

// P17.2, F4, F6, F7: what is unlinked, or replaced, is there until its last handle is closed; names, directories and other handles play no part.
func TestP172Handles(t *testing.T) {
	b := grove(t)
	b.opens("/d/g", 3, 1)
	b.opens("/d/g", 1, 2)
	b.opens("/f", 3, 3)
	b.is("Rename of a directory above", b.Rename("/d", "/moved"), api.OK)
	b.writes(1, 0, "by 1")
	b.reads(2, 0, 9, "by 1")
	b.is("Rename onto it", b.Rename("/f", "/moved/g"), api.OK)
	b.missing("/f")
	b.reads(2, 0, 9, "by 1")
	b.reads(3, 0, 9, "of f")
	b.writes(1, 2, "again")
	b.is("Truncate", b.Truncate(1, 6), api.OK)
	b.is("Close", b.Close(1), api.OK)
	b.reads(2, 0, 9, "byagai")
	b.is("Unlink", b.Unlink("/moved/g"), api.OK)
	b.is("Rmdir", b.Rmdir("/moved/h"), api.OK)
	b.is("Rmdir", b.Rmdir("/moved"), api.OK)
	b.opens("/moved", 7, 1)
	b.writes(1, 0, "other")
	b.reads(3, 0, 9, "of f")
	b.reads(2, 0, 9, "byagai")
	if got := b.objects(); !slices.Equal(got, []int{2, 3, 4, 6, 7, 8, 9}) {
		t.Errorf("the objects %v", got)
	}
	b.is("Close", b.Close(2), api.OK)
	b.is("Close", b.Close(3), api.OK)
	if got := b.objects(); !slices.Equal(got, []int{3, 6, 7, 8, 9}) {
		t.Errorf("F4: the objects %v", got)
	}
	b.is("Close of what has a name", b.Close(1), api.OK)
	b.stats("/moved", api.Stat{Id: 3, Type: api.TypeFile, Size: 5, Mode: 420})
}

// P17.2: an unlinked file is there while the chip is cleaned again and again, and takes bytes.
func TestP172UnlinkedWhileBlocksAreCleaned(t *testing.T) {
	b := begun(t, small())
	b.opens("/f", 7, 1)
	b.writes(1, 0, strings.Repeat("bytes", 100))
	b.is("Unlink", b.Unlink("/f"), api.OK)
	b.opens("/g", 7, 2)
	for i := range 200 {
		b.writes(2, i, "x")
		b.writes(1, 3*i, "y")
	}
	want := []byte(strings.Repeat("bytes", 100) + zeros(98))
	for i := range 200 {
		want[3*i] = 'y'
	}
	b.reads(1, 0, 999, string(want))
	b.reads(2, 0, 999, letters(200))
	keepsRules(t, b.c)
	b.is("Close", b.Close(1), api.OK)
	if u, e := b.Usage(); u.Live != 2 || e != api.OK {
		t.Errorf("Usage: %v, %d", u, e)
	}
}

// Behind ErrBroken, which comes about where no serial is left, calls that make steps answer ErrHalted, and all else goes on.
func TestP3Halted(t *testing.T) {
	b := lateDisk(t)
	b.opens("/f", 3, 1)
	for i := 0; ; i++ {
		n, e := b.Write(1, 0, []byte("bytes"))
		if e == api.OK && i < 100 {
			continue
		}
		if n != 0 || e != api.ErrBroken {
			t.Fatalf("the last serial: %d, %d", n, e)
		}
		break
	}
	b.seen = len(b.c.Trace())
	b.is("Mkdir", b.Mkdir("/n", 0), api.ErrHalted)
	b.is("Unlink", b.Unlink("/f"), api.ErrHalted)
	b.is("Rename", b.Rename("/f", "/n"), api.ErrHalted)
	b.is("Write", writeError(b, 1), api.ErrHalted)
	b.is("Truncate", b.Truncate(1, 0), api.ErrHalted)
	b.is("Chmod", b.Chmod("/f", 1), api.ErrHalted)
	b.shut("/n", 7, 0, api.ErrHalted)
	b.shut("/f", api.OpenWrite|api.OpenEmpty, 0, api.ErrHalted)
	b.reads(1, 0, 9, "bytes")
	b.tree("/f")
	b.is("Rename to where it is", b.Rename("/f", "/f"), api.OK)
	b.is("Close", b.Close(1), api.OK)
	b.is("Sync", b.Sync(), api.OK)
	b.is("Unmount", b.Unmount(), api.OK)
	b.silent("a life that is over")
	b.again().tree("/f")
}

// lateDisk is a disk with the file /f on which few serials are left.
func lateDisk(t *testing.T) *bench {
	t.Helper()
	b := begun(t, small())
	b.file("/f", "")
	s, e := scan.Mount(b.c)
	if e != api.OK {
		t.Fatalf("scan.Mount: %d", e)
	}
	s.Next = api.MaxSerial - 20
	l, e := log.Start(b.c, s)
	if e != api.OK {
		t.Fatalf("log.Start: %d", e)
	}
	if e := l.Step(api.Record{Kind: api.KindData, Object: 2, Data: []byte("bytes")}); e != api.OK {
		t.Fatalf("Step: %d", e)
	}
	return b.again()
}

// F2: Unmount is as Close of all handles ahead of it: where what was unlinked lay, there is room for a checkpoint.
func TestF2UnmountClosesHandles(t *testing.T) {
	differ := 0
	for seed := range int64(40) {
		trace := func(closed, synced bool) []api.Command {
			r := rand.New(rand.NewSource(seed))
			b := begun(t, small())
			b.opens("/f", 7, 1)
			b.opens("/g", 7, 2)
			b.writes(1, 0, letters(256*(3+r.Intn(8))))
			for i := range 50 + r.Intn(20) { // the pages of /f are copied together
				b.Touch("/g", uint64(i))
			}
			b.is("Unlink", b.Unlink("/f"), api.OK)
			for i := range r.Intn(3) {
				b.Touch("/g", uint64(i))
			}
			if closed {
				b.is("Close", b.Close(1), api.OK)
				b.is("Close", b.Close(2), api.OK)
			}
			if synced {
				b.is("Sync", b.Sync(), api.OK)
			} else {
				b.is("Unmount", b.Unmount(), api.OK)
			}
			b.again().tree("/g")
			return b.c.Trace()
		}
		want := trace(true, false)
		if !slices.Equal(trace(false, false), want) {
			t.Fatalf("seed %d: another checkpoint than behind Close", seed)
		}
		if !slices.Equal(trace(false, true), want) {
			differ++
		}
	}
	if differ == 0 {
		t.Error("no checkpoint hangs on what is open")
	}
}
