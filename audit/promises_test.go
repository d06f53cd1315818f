package audit

import (
	"bytes"
	"math/rand"
	"reflect"
	"strings"
	"testing"

	"shale/api"
	"shale/chip"
	"shale/files"
	"shale/point"
	"shale/scan"
	"shale/volume"
)

// mounted is a disk on a chip, the power being on.
func mounted(t *testing.T, c *chip.Chip) *files.Disk {
	t.Helper()
	c.On()
	d, e := files.Mount(c)
	if e != api.OK {
		t.Fatalf("Mount: %d", e)
	}
	return d
}

func begun(t *testing.T, g api.Geometry, faults ...api.Fault) (*chip.Chip, *files.Disk) {
	t.Helper()
	c := newChip(t, g, nil, faults...)
	if e := files.Format(c); e != api.OK {
		t.Fatalf("Format: %d", e)
	}
	return c, mounted(t, c)
}

// shown fails unless a chip's report is this text.
func shown(t *testing.T, what string, c *chip.Chip, lines ...string) {
	t.Helper()
	r, e := Run(c.Image())
	if want := strings.Join(lines, "\n") + "\n"; e != api.OK || Show(r) != want {
		t.Errorf("%s: %q, %d, want %q", what, Show(r), e, want)
	}
}

func wrote(t *testing.T, d *files.Disk, p string, want api.Errno, data []byte) int {
	t.Helper()
	h, e := d.Open(p, api.OpenRead|api.OpenWrite|api.OpenCreate, 420)
	if e != api.OK {
		t.Fatalf("Open: %d", e)
	}
	if _, e := d.Write(h, 0, data); e != want {
		t.Fatalf("Write: %d, want %d", e, want)
	}
	return h
}

// DOC.md's third example: the power goes in the midst of a page.
func TestExampleOfACut(t *testing.T) {
	c, d := begun(t, shape(12, 4, 1), api.Fault{At: 6, Kind: api.FaultCut, Mask: nil, Fill: 15})
	wrote(t, d, "/f", api.ErrOff, bytes.Repeat([]byte{1}, 600))
	lines := []string{"floor 1", "counted 2", "live 2", "used 1", "bad 0", "saved no", "broken 1 3 0"}
	shown(t, "while it is off", c, lines...)
	mounted(t, c)
	shown(t, "behind the cut", c, lines...)
}

// DOC.md's seventh example: bits have turned round.
func TestExampleOfFlips(t *testing.T) {
	c, d := begun(t, shape(12, 4, 1))
	wrote(t, d, "/f", api.OK, []byte("abc"))
	for _, bit := range []int{0, 2050} {
		if e := c.Flip(at(1, 2), bit); e != api.OK {
			t.Fatalf("Flip: %d", e)
		}
	}
	shown(t, "flips", c, "floor 1", "counted 2", "live 2", "used 1", "bad 0", "saved no", "fixed 1 2 0")
}

// DOC.md's eighth example: a checkpoint.
func TestExampleOfACheckpoint(t *testing.T) {
	c, d := begun(t, shape(12, 4, 1))
	h := wrote(t, d, "/f", api.OK, []byte("abcd"))
	if d.Truncate(h, 2) != api.OK || d.Unmount() != api.OK {
		t.Fatal("Truncate, Unmount")
	}
	shown(t, "behind an Unmount", c, "floor 1", "counted 4", "live 2", "used 2", "bad 0", "saved yes")
	d = mounted(t, c)
	shown(t, "a mount changes nothing", c, "floor 1", "counted 4", "live 2", "used 2", "bad 0", "saved yes")
	h, _ = d.Open("/f", api.OpenWrite, 0)
	if e := d.Truncate(h, 4); e != api.OK {
		t.Fatal(e)
	}
	shown(t, "behind a step", c, "floor 1", "counted 5", "live 2", "used 3", "bad 0", "saved no")
}

func somePath(r *rand.Rand) string {
	p := ""
	for range 1 + r.Intn(3) {
		p += "/" + someOf(r, "a", "b", "c", "d", "..")
	}
	return p
}

func someCall(r *rand.Rand, c int) api.Call {
	ops := []int{api.CallOpen, api.CallOpen, api.CallWrite, api.CallWrite, api.CallWrite, api.CallTruncate, api.CallClose, api.CallMkdir, api.CallMkdir, api.CallLink, api.CallRename, api.CallRename, api.CallUnlink, api.CallUnlink, api.CallRmdir, api.CallTouch, api.CallChmod, api.CallSync}
	x := api.Call{Op: someOf(r, ops...), Path: somePath(r), To: somePath(r), Mode: r.Intn(4096), Stamp: r.Uint64(), Handle: 1 + r.Intn(4)}
	x.Flags = someOf(r, 3, 7, 7, 6, 15, 22)
	x.At, x.Size = r.Intn(3*c), r.Intn(4*c)
	x.Data = someBytes(r, r.Intn(3*c))
	return x
}

// someFaults: commands fail, the power goes, some of them close to one another.
func someFaults(r *rand.Rand) []api.Fault {
	var list []api.Fault
	for n := 2 + r.Intn(20); n < 600; n += 1 + r.Intn(60) {
		list = append(list, api.Fault{At: n, Kind: someOf(r, api.FaultCut, api.FaultCut, api.FaultFail), Mask: someBytes(r, r.Intn(400)), Fill: someOf[byte](r, 0, 255, 15)})
	}
	return list
}

func ages(r *rand.Rand, c *chip.Chip) {
	g := c.Geometry()
	for range r.Intn(20) {
		c.Flip(at(r.Intn(g.Blocks), r.Intn(g.Pages)), r.Intn(8*(256*g.Sectors+54+3*g.Sectors)))
	}
}

// P19.3, P19.4: whatever calls, faults, cuts and flips there were, the report is sound; Run tells what the slow model does.
func TestP193Sound(t *testing.T) {
	kinds := map[int]int{}
	lives := 0
	for seed := range int64(60) {
		r := rand.New(rand.NewSource(seed))
		g := someOf(r, shape(12, 4, 1), shape(14, 5, 1), shape(13, 6, 2), shape(20, 8, 1))
		var faults []api.Fault
		if seed%4 > 0 {
			faults = someFaults(r)
		}
		c, d := begun(t, g, faults...)
		for n := range 250 {
			e := d.Call(someCall(r, 256*g.Sectors)).E
			if n%7 == 0 || e == api.ErrOff || e == api.ErrBroken {
				report, failed := Run(c.Image())
				if failed != api.OK || !Sound(report) {
					t.Fatalf("P19.3: seed %d, behind %d calls: %v, %d", seed, n, report, failed)
				}
				for _, f := range report.Findings {
					kinds[f.Kind]++
				}
			}
			if e == api.ErrOff || e == api.ErrBroken || e == api.ErrHalted || r.Intn(80) == 0 {
				c.On()
				next, e := files.Mount(c)
				if e != api.OK {
					t.Fatalf("Mount: %d", e)
				}
				d = next
				lives++
			}
			if r.Intn(20) == 0 {
				ages(r, c)
			}
		}
		c.On()
		model{t, c}.agrees("behind calls")
	}
	for _, kind := range []int{api.FoundBroken, api.FoundFixed, api.FoundStale, api.FoundLink, api.FoundBad} {
		if kinds[kind] < 20 {
			t.Errorf("too few findings of a kind: %v", kinds)
		}
	}
	if lives < 100 {
		t.Errorf("%d lives", lives)
	}
}

// P19.3: of a volume's calls, too, by which directories can be unlinked that were open by nothing, and objects forgotten.
func TestP193Volume(t *testing.T) {
	for seed := range int64(40) {
		r := rand.New(rand.NewSource(seed))
		c := newChip(t, shape(14, 5, 1), nil, someFaults(r)...)
		if e := scan.Format(c); e != api.OK {
			t.Fatal(e)
		}
		v, e := volume.Mount(c)
		for range 200 {
			if e != api.OK {
				t.Fatalf("Mount: %d", e)
			}
			id, other := 1+r.Intn(9), 1+r.Intn(9)
			var got api.Errno
			switch r.Intn(8) {
			case 0, 1:
				_, got = v.Make(api.Node{Type: someOf(r, api.TypeFile, api.TypeDir), Parent: id, Name: someOf(r, "a", "b", "c"), Mode: 420})
			case 2, 3:
				_, got = v.Write(id, r.Intn(600), someBytes(r, r.Intn(700)))
			case 4:
				got = v.Move(id, other, someOf(r, "a", "b", "c"))
			case 5:
				got = v.Unlink(id)
			case 6:
				got = v.Cut(id, r.Intn(900))
			case 7:
				got = v.Forget(id)
			}
			if r.Intn(5) == 0 {
				if report, e := Run(c.Image()); e != api.OK || !Sound(report) {
					t.Fatalf("P19.3: seed %d: %v, %d", seed, report, e)
				}
			}
			if got == api.ErrOff || got == api.ErrBroken || got == api.ErrHalted {
				c.On()
				v, e = volume.Mount(c)
			}
		}
	}
}

// P6: behind an Unmount or a Sync that went well the checkpoint, where there is one, tells what the scan does, and the report says that there is one.
func TestP6Checkpoint(t *testing.T) {
	saved := 0
	for seed := range int64(80) {
		r := rand.New(rand.NewSource(seed))
		g := someOf(r, shape(14, 5, 1), shape(13, 6, 2), shape(20, 8, 1))
		var faults []api.Fault
		if seed%2 > 0 {
			faults = someFaults(r)
		}
		c, d := begun(t, g, faults...)
		for range 6 {
			for range 20 {
				if e := d.Call(someCall(r, 256*g.Sectors)).E; e == api.ErrOff || e == api.ErrBroken || e == api.ErrHalted {
					d = mounted(t, c)
				}
			}
			ages(r, c)
			var e api.Errno
			if r.Intn(2) == 0 {
				e = d.Sync()
			} else {
				e = d.Unmount()
			}
			if e == api.OK {
				saved += checkpoint(t, c)
			}
			d = mounted(t, c)
		}
	}
	if saved < 100 {
		t.Errorf("%d checkpoints", saved)
	}
}

// checkpoint fails unless what a chip's checkpoint tells is what its scan does; it tells how many there are.
func checkpoint(t *testing.T, c *chip.Chip) int {
	t.Helper()
	s, found, e := point.Restore(c)
	want, f := scan.Mount(c)
	if e != api.OK || f != api.OK || found && !reflect.DeepEqual(s, want) {
		t.Fatalf("P6: the checkpoint tells %v, %d, the scan %v, %d", s, e, want, f)
	}
	r, e := Run(c.Image())
	if e != api.OK || r.Saved != found || r.Floor != want.Floor {
		t.Fatalf("P6: the report is %v, %d; there is a checkpoint: %v", r, e, found)
	}
	live, used := 0, 0
	for _, b := range want.Blocks {
		live += b.Live
		if b.State == api.BlockUsed {
			used++
		}
	}
	if r.Live != live || r.Used != used {
		t.Fatalf("P6: %v, the state has %d pages that are current in %d blocks", r, live, used)
	}
	if found {
		return 1
	}
	return 0
}

// P9: flips change nothing of a report but what it tells of bits.
func TestP9Flips(t *testing.T) {
	for seed := range int64(30) {
		r := rand.New(rand.NewSource(seed))
		c, d := begun(t, shape(14, 5, 1))
		for range 60 {
			d.Call(someCall(r, 256))
		}
		before, _ := Run(c.Image())
		ages(r, c)
		after, e := Run(c.Image())
		kept := after
		kept.Findings = nil
		for _, f := range after.Findings {
			if f.Kind != api.FoundFixed {
				kept.Findings = append(kept.Findings, f)
			}
		}
		if e != api.OK || !sameReport(before, kept) {
			t.Fatalf("P9: %v, %d, want %v", after, e, before)
		}
	}
}

// P10: reports of chips are read as what they were written of.
func TestP10Reports(t *testing.T) {
	for seed := range int64(50) {
		r, e := Run(scribbled(t, rand.New(rand.NewSource(seed))).Image())
		if e != api.OK {
			t.Fatal(e)
		}
		if got, e, line := Read(Show(r)); e != api.OK || line != 0 || !sameReport(got, r) {
			t.Fatalf("P10: %v, %d, %d, want %v", got, e, line, r)
		}
	}
}
