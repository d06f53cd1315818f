package point

import (
	"bytes"
	"slices"
	"testing"

	"shale/api"
	"shale/scan"
)

// K2: what becomes of each block; an unlinked object has its header in another one, and so many chunks in it.
func TestK2Blocks(t *testing.T) {
	for what, x := range map[string]struct {
		block api.Block
		loose int // how many of its places are of objects that are loose
		want  api.Block
	}{
		"free":                    {api.Block{}, 0, api.Block{}},
		"bad":                     {api.Block{State: api.BlockBad}, 0, api.Block{State: api.BlockBad}},
		"leaving":                 {api.Block{State: api.BlockLeaving, Head: 5, Real: true}, 0, api.Block{}},
		"held":                    {api.Block{State: api.BlockHeld}, 0, api.Block{}},
		"used":                    {api.Block{State: api.BlockUsed, Head: 5, Live: 3}, 0, api.Block{State: api.BlockUsed, Head: 5, Live: 3}},
		"used, less two":          {api.Block{State: api.BlockUsed, Head: 5, Live: 3}, 2, api.Block{State: api.BlockUsed, Head: 5, Live: 1}},
		"used, less all":          {api.Block{State: api.BlockUsed, Head: 5, Live: 2}, 2, api.Block{}},
		"used, real, less all":    {api.Block{State: api.BlockUsed, Head: 5, Real: true, Live: 2}, 2, api.Block{State: api.BlockUsed, Head: 5, Real: true}},
		"used, nothing in it":     {api.Block{State: api.BlockUsed, Head: 5}, 0, api.Block{}},
		"open":                    {api.Block{State: api.BlockOpen, Head: 5, Live: 3}, 0, api.Block{State: api.BlockUsed, Head: 5, Live: 3}},
		"open, real":              {api.Block{State: api.BlockOpen, Head: 5, Real: true}, 0, api.Block{State: api.BlockUsed, Head: 5, Real: true}},
		"open, nothing in it":     {api.Block{State: api.BlockOpen, Head: 5}, 0, api.Block{}},
		"open, less all":          {api.Block{State: api.BlockOpen, Head: 5, Live: 3}, 3, api.Block{}},
		"waiting":                 {api.Block{State: api.BlockWaiting, Head: 5, Real: true, Live: 3}, 1, api.Block{State: api.BlockWaiting, Head: 5, Real: true, Live: 2}},
		"waiting, nothing in it":  {api.Block{State: api.BlockWaiting, Head: 5}, 0, api.Block{State: api.BlockWaiting, Head: 5}},
		"waiting, less all of it": {api.Block{State: api.BlockWaiting, Head: 5, Live: 3}, 3, api.Block{State: api.BlockWaiting, Head: 5}},
	} {
		s := api.State{Blocks: []api.Block{{State: api.BlockUsed, Head: 2, Live: 9}, x.block}}
		gone := object(2, api.Node{Type: api.TypeFile, Name: "u"}, at(0, 1))
		for n := range x.loose {
			gone.Chunks = append(gone.Chunks, piece(n, at(1, 1+n), 1))
		}
		s.Objects = []api.Object{gone}
		got := settled(s)
		if got.Blocks[1] != x.want || got.Blocks[0] != (api.Block{State: api.BlockUsed, Head: 2, Live: 8}) || len(got.Objects) != 0 {
			t.Errorf("%s: %v, want %v", what, got.Blocks, x.want)
		}
	}
}

// K2: loose objects are left out, phantoms and unlinked ones; all else is as it is.
func TestK2Objects(t *testing.T) {
	a := object(2, file("a"), at(0, 1), piece(0, at(0, 2), 9))
	phantom := api.Object{Id: 3, Chunks: []api.Chunk{piece(0, at(0, 3), 9), piece(1, at(1, 1), 9)}}
	unlinked := object(4, api.Node{Type: api.TypeDir, Name: "d"}, at(1, 2))
	z := object(9, file("z"), at(1, 3))
	s := api.State{Floor: 3, Next: 40, Cursor: 1, Last: 0, Blocks: []api.Block{{State: 1, Head: 3, Live: 3}, {State: 2, Head: 9, Live: 3}}, Objects: []api.Object{a, phantom, unlinked, z}}
	want := api.State{Floor: 3, Next: 40, Cursor: 1, Last: 0, Blocks: []api.Block{{State: 1, Head: 3, Live: 2}, {State: 1, Head: 9, Live: 1}}, Objects: []api.Object{a, z}}
	if got := settled(s); !sameState(got, want) {
		t.Errorf("%v, want %v", got, want)
	}
}

// K3, K4: the chapter's example.
func TestK3Example(t *testing.T) {
	c, l := begun(t, small())
	restored(t, "behind Format", c, false)
	saved(t, "an empty log", l, true)
	gives(t, "Save", c, 2, erase(1), program(1, 0), program(1, 1))
	head, _ := looked(t, c, at(1, 0))
	tags, data := looked(t, c, at(1, 1))
	if head != (api.Tags{Kind: api.KindHead, Serial: 2, Begin: 1}) || tags != (api.Tags{Kind: api.KindSave, Flags: api.FlagEnd, Serial: 3, Begin: 1, Object: 1, Count: 116}) {
		t.Errorf("the pages are %v, %v", head, tags)
	}
	want := append([]byte{255, 255, 255, 255}, packed(t, bare())...)
	if !bytes.Equal(data, want) {
		t.Errorf("the part is % x, want % x", data, want)
	}
	s := restored(t, "behind Save", c, true)
	blocks := make([]api.Block, 8)
	blocks[1] = api.Block{State: api.BlockUsed, Head: 2, Real: true}
	if !sameState(s, api.State{Floor: 1, Next: 4, Cursor: 1, Last: 1, Blocks: blocks}) {
		t.Errorf("Restore: %v", s)
	}
	asScanned(t, "behind Save", c, s)
	if u := l.Usage(); u.Limit < 1 {
		t.Fatalf("Usage: %v", u)
	}
	steps(t, l, header(2, file("a")))
	gives(t, "a step", c, 5, program(1, 2))
	restored(t, "behind a step", c, false)
}

// K3: the bytes are cut into parts of C - 4, the last one what is left.
func TestK3Parts(t *testing.T) {
	for _, g := range []api.Geometry{shape(12, 8, 1), shape(30, 4, 2), shape(64, 9, 3)} {
		c, l := begun(t, g)
		for n := range 10 {
			steps(t, l, header(2+n, file("name")), chunk(2+n, 3, 200))
		}
		from := len(c.Trace())
		b := packed(t, settled(l.State()))
		saved(t, "a log", l, true)
		room := 256*g.Sectors - 4
		var parts [][]byte
		ahead := []byte{255, 255, 255, 255}
		for _, x := range c.Trace()[from:] {
			if x.Kind != api.CmdProgram || x.Page == 0 {
				continue
			}
			tags, data := looked(t, c, at(x.Block, x.Page))
			if tags.Kind != api.KindSave || tags.Chunk != len(parts) || tags.Object != (len(b)+room-1)/room || !bytes.Equal(data[:4], ahead) {
				t.Fatalf("the part %d is %v, % x", len(parts), tags, data[:4])
			}
			parts = append(parts, data[4:])
			ahead = []byte{byte(x.Block), byte(x.Block >> 8), byte(x.Page), byte(x.Page >> 8)}
		}
		for n, p := range parts[:len(parts)-1] {
			if len(p) != room {
				t.Errorf("the part %d has %d bytes", n, len(p))
			}
		}
		if !bytes.Equal(slices.Concat(parts...), b) || len(parts) < 2 {
			t.Errorf("%d parts are not the state's bytes", len(parts))
		}
		asScanned(t, "behind Save", c, restored(t, "behind Save", c, true))
	}
}

// K3: where there is no room, or a block waits, or a Mark has failed, nothing is written.
func TestK3Nothing(t *testing.T) {
	c, l := begun(t, small(), api.Fault{At: 4, Kind: api.FaultFail})
	steps(t, l, header(2, file("a"))) // the block 1 waits behind it, and is marked
	if s := l.State(); s.Blocks[1].State != api.BlockBad {
		t.Fatalf("the blocks are %v", s.Blocks)
	}
	saved(t, "a block was marked", l, true)
	asScanned(t, "a block was marked", c, restored(t, "a block was marked", c, true))

	c, l = begun(t, shape(12, 4, 1), api.Fault{At: 5, Kind: api.FaultFail})
	steps(t, l, header(2, file("a")), chunk(2, 0, 9))
	if s := l.State(); s.Blocks[1].State != api.BlockWaiting {
		t.Fatalf("the blocks are %v", s.Blocks)
	}
	n := len(c.Trace())
	saved(t, "a block waits", l, false)
	gives(t, "a block waits", c, n)
	restored(t, "a block waits", c, false)

	c, l = begun(t, shape(12, 4, 1), api.Fault{At: 3, Kind: api.FaultFail}, api.Fault{At: 4, Kind: api.FaultFail})
	steps(t, l, header(2, file("a")))
	n = len(c.Trace())
	saved(t, "a Mark has failed", l, false)
	gives(t, "a Mark has failed", c, n)
}

// K3: four free blocks are left to the steps.
func TestK3Room(t *testing.T) {
	for _, bad := range [][]int{nil, {7}, {6, 7}, {5, 6, 7}, {4, 5, 6, 7}} {
		c := newChip(t, small(), bad)
		if e := scan.Format(c); e != api.OK {
			t.Fatal(e)
		}
		l := mounted(t, c)
		saved(t, "with bad blocks", l, len(bad) <= 2)
		if len(bad) <= 2 {
			gives(t, "Save", c, 2, erase(1), program(1, 0), program(1, 1))
		} else {
			gives(t, "Save", c, 2)
		}
	}
}

// K3: a log that is halted, or whose chip has no power.
func TestK3Halted(t *testing.T) {
	c, l := begun(t, small(), api.Fault{At: 2, Kind: api.FaultCut})
	if e := l.Step(header(2, file("a"))); e != api.ErrOff {
		t.Fatalf("Step: %d", e)
	}
	saved(t, "halted, in the dark", l, false)
	c.On()
	saved(t, "halted", l, false)
	gives(t, "halted", c, 3)

	c, l = begun(t, small(), api.Fault{At: 2, Kind: api.FaultCut})
	c.Mark(7)
	if is, e := Save(l); is || e != api.ErrOff {
		t.Errorf("Save in the dark: %v, %d", is, e)
	}
	c.On()
	saved(t, "with power again", l, true)
}

// K3: the power goes in the midst of a Save, or a command of it fails.
func TestK3CutAndFail(t *testing.T) {
	for n := 2; n < 5; n++ {
		c, l := begun(t, small(), api.Fault{At: n, Kind: api.FaultCut})
		if is, e := Save(l); is || e != api.ErrOff || !l.Halted() {
			t.Errorf("Save, cut at %d: %v, %d", n, is, e)
		}
		c.On()
		restored(t, "behind a cut", c, false)

		c, l = begun(t, small(), api.Fault{At: n, Kind: api.FaultFail})
		saved(t, "a command fails", l, false)
		if l.Halted() {
			t.Error("it is halted")
		}
		restored(t, "behind a failure", c, false)
		want, e := scan.Mount(c)
		if m := mounted(t, c); e != api.OK || !sameState(m.State(), want) {
			t.Errorf("Mount: %v, want %v", m.State(), want)
		}
	}
	c, l := begun(t, small(), api.Fault{At: 4, Kind: api.FaultCut, Fill: 255})
	if is, e := Save(l); is || e != api.ErrOff {
		t.Errorf("Save, cut when all was done: %v, %d", is, e)
	}
	c.On()
	asScanned(t, "a page that is whole all the same", c, restored(t, "a whole page", c, true))
}

// K3: serials come to an end in the midst of a Save.
func TestK3LastSerials(t *testing.T) {
	c := newChip(t, small(), nil)
	layAll(t, c, sheet{at: at(0, 0), tags: api.Tags{Kind: api.KindHead, Serial: api.MaxSerial - 1, Begin: 1}})
	l := mounted(t, c)
	if is, e := Save(l); is || e != api.ErrBroken || !l.Halted() {
		t.Errorf("Save: %v, %d", is, e)
	}
	c = newChip(t, small(), nil)
	layAll(t, c, sheet{at: at(0, 0), tags: api.Tags{Kind: api.KindHead, Serial: api.MaxSerial - 2, Begin: 1}})
	l = mounted(t, c)
	saved(t, "with the last serial", l, true)
	s := restored(t, "with the last serial", c, true)
	if s.Next != api.MaxSerial+1 {
		t.Errorf("Next: %d", s.Next)
	}
	asScanned(t, "with the last serial", c, s)
	if _, is, e := Mount(c); !is || e != api.OK {
		t.Errorf("Mount: %v, %d", is, e)
	}
}
