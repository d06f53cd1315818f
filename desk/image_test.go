package desk

import (
	"fmt"
	"math/rand"
	"strings"
	"testing"

	"shale/api"
	"shale/chip"
	"shale/image"
	"shale/leaf"
	"shale/node"
	"shale/words"
)

// someRecord picks a page's tags and content: a record that no log would write, as often as not.
func someRecord(r *rand.Rand, g api.Geometry, serial uint64) (api.Tags, []byte) {
	t := api.Tags{Kind: api.KindNode, Serial: serial, Begin: 1 + uint64(r.Int63n(int64(serial))), Object: 2 + r.Intn(8)}
	if r.Intn(3) > 0 {
		t.Begin = someOf(r, 1, serial)
	}
	switch r.Intn(8) {
	case 0, 1:
		t.Kind, t.Chunk, t.Flags = api.KindData, someOf(r, 0, 0, 1, 2, 40), someOf(r, 0, 0, api.FlagCopy, api.FlagCut)
		b := make([]byte, 1+r.Intn(256*g.Sectors))
		r.Read(b)
		return t, b
	case 2:
		t.Kind, t.Object, t.Chunk, t.Flags = api.KindSave, 1, 0, api.FlagEnd
		return t, []byte{255, 255, 255, 255, 1, 2, 3}
	case 3:
		t.Object = someOf(r, api.MaxObject, 9, 10)
	}
	n := api.Node{Type: 1 + r.Intn(3), Parent: someOf(r, 1, 1, 1, 2, 3, 4, 5, 0, 77), Name: someOf(r, "a", "b", "a", " ", "\xff", strings.Repeat("n", 63)), Mode: r.Intn(4096)}
	if n.Shadow = someOf(r, 0, 0, 0, 3, 4); n.Type == api.TypeFile {
		n.Size = someOf(r, 0, 0, 10, 300, 5000)
	}
	if n.Type == api.TypeLink {
		n.Target = someOf(r, "a", "/a", "..", "/", "b/../a")
	}
	b, _ := node.Pack(n)
	t.Flags = someOf(r, 0, 0, 0, api.FlagCopy)
	return t, b
}

// laidByHand is an image of pages that no log has written: circles, names that stand twice, serials near their end, heads in odd places, broken pages.
func laidByHand(r *rand.Rand, g api.Geometry) api.Image {
	c, _ := chip.New(g, nil, nil)
	serial := someOf(r, 1, 1, 1, 1, uint64(api.MaxSerial-20))
	for b := range g.Blocks {
		if r.Intn(3) == 0 {
			continue
		}
		for p := range g.Pages {
			tags, data := someRecord(r, g, serial)
			if p == 0 && r.Intn(10) > 0 || r.Intn(30) == 0 {
				tags, data = api.Tags{Kind: api.KindHead, Serial: serial, Begin: someOf(r, 1, 1, 1, serial)}, nil
			}
			tags.Count = len(data)
			page, e := leaf.Build(g, tags, data)
			if e == api.OK && r.Intn(12) > 0 {
				c.Program(api.Place{Block: b, Page: p}, page)
			}
			if serial += uint64(r.Intn(2)); serial > api.MaxSerial {
				serial = api.MaxSerial
			}
		}
		if r.Intn(12) == 0 {
			c.Mark(b)
		}
	}
	return c.Image()
}

// R1: whatever image is loaded, all orders end, and none panics; the report can be told again (P11).
func TestR1AnyImage(t *testing.T) {
	t.Parallel()
	mounts := 0
	for seed := range int64(400) {
		r := rand.New(rand.NewSource(seed))
		g := shapes()[seed%4]
		b, e := image.Pack(laidByHand(r, g))
		if e != api.OK {
			t.Fatal(e)
		}
		s := newSession(t, "load x"+words.Hex(b), "audit")
		if s.says("mount") == "ok\n" {
			mounts++
		}
		ghosts := newGhost(g)
		ghosts.hands[1], ghosts.hands[2] = hand{file: 2}, hand{file: 3}
		for range 60 {
			s.says(strings.ReplaceAll(ghosts.someOrder(r), "2147483647", "9000"))
		}
		for _, line := range []string{"tree", "store /", "audit", "sync", "unmount", "mount", "tree", "format", "power", "format", "mount", "tree", "dump", "trace 9"} {
			s.says(line)
		}
		s.same()
		if again := s.says("audit"); !strings.HasPrefix(again, "floor ") {
			t.Fatal(again)
		}
	}
	if mounts < 200 {
		t.Errorf("%d images were mounted", mounts)
	}
	if got := Run(fmt.Sprintf("load x%x", make([]byte, 40))); got != "error magic\n" {
		t.Errorf("%q", got)
	}
}
