package judge

import (
	"math/rand"
	"testing"

	"shale/api"
	"shale/chip"
)

func pageOf(v byte) api.Page {
	page := api.Page{Data: make([]byte, 256), Spare: make([]byte, 57)}
	for i := range page.Data {
		page.Data[i] = v
	}
	return page
}

// faultsOf tells faults that leave every Mark undone, as far as they meet one: the judge knows nothing of those that are done and fail.
func faultsOf(r *rand.Rand, n int) []api.Fault {
	var faults []api.Fault
	for at := range n {
		if r.Intn(3) == 0 {
			faults = append(faults, api.Fault{At: at, Kind: 1 + r.Intn(2), Mask: []byte{byte(r.Intn(256)) &^ 1, byte(r.Intn(256))}, Fill: byte(r.Intn(256))})
		}
	}
	return faults
}

func give(c *chip.Chip, x api.Command, v byte) api.Errno {
	switch x.Kind {
	case program:
		return c.Program(api.Place{Block: x.Block, Page: x.Page}, pageOf(v))
	case erase:
		return c.Erase(x.Block)
	}
	return c.Mark(x.Block)
}

// TestP52TheChipAndTheJudgeAgree also holds the chip to C14: of a new chip, ErrRule stands in the trace just where a rule was broken.
func TestP52TheChipAndTheJudgeAgree(t *testing.T) {
	for seed := range int64(60) {
		r := rand.New(rand.NewSource(seed))
		c, e := chip.New(small(), []int{1, 6}, faultsOf(r, 150))
		clean := seed%2 == 0
		if !clean && e == api.OK {
			c, e = chip.Load(c.Image(), faultsOf(r, 150))
		}
		if e != api.OK {
			t.Fatalf("no chip: %d", e)
		}
		j := made(t, []bool{1: true, 6: true, 7: false}, clean)
		refused := 0
		for i := range 200 {
			x := someCommand(r)
			if x.Kind == 4 {
				x.Kind = erase
			}
			x.Status = api.OK
			status := give(c, x, byte(i))
			trace := c.Trace()
			told := trace[len(trace)-1]
			if told.Status != status {
				t.Fatalf("the trace tells %d, the chip answered %d", told.Status, status)
			}
			no := status == api.ErrPlace || status == api.ErrRule
			if no {
				refused++
				told.Status = api.OK // by its Status alone the judge would refuse it
			}
			if j.See(told) == no {
				t.Fatalf("seed %d, the command %d, %v: the chip answered %d, the judge says otherwise", seed, i, x, status)
			}
			c.On()
		}
		if refused < 10 || refused > 190 {
			t.Errorf("seed %d: %d were refused", seed, refused)
		}
		kept := 0
		for _, x := range c.Trace() {
			if x.Status == api.OK || x.Status == api.ErrFailed || x.Status == api.ErrOff {
				kept++
			}
		}
		if kept != c.Count() {
			t.Errorf("seed %d: %d taken, %d in the trace", seed, c.Count(), kept)
		}
	}
}

// TestP52NextIsWhatTheChipTakes asks Next, and then the chip itself.
func TestP52NextIsWhatTheChipTakes(t *testing.T) {
	for seed := range int64(30) {
		r := rand.New(rand.NewSource(seed))
		faults := faultsOf(r, 30)
		life := func(n int) (*chip.Chip, *Judge) {
			s := rand.New(rand.NewSource(seed + 1000))
			c, e := chip.New(small(), nil, faults)
			if e != api.OK {
				t.Fatal(e)
			}
			j := made(t, make([]bool, 8), true)
			for range n {
				x := someCommand(s)
				give(c, x, 0)
				c.On()
			}
			for _, x := range c.Trace() {
				j.See(x)
			}
			return c, j
		}
		for p := range 4 {
			c, j := life(25)
			for b := range 8 {
				next, e := j.Next(b)
				if e != api.OK {
					t.Fatal(e)
				}
				if taken := c.Program(api.Place{Block: b, Page: p}, pageOf(0)) != api.ErrRule; taken != (p >= next) {
					t.Fatalf("seed %d: the page %d of the block %d is taken: %v, Next %d", seed, p, b, taken, next)
				}
				c.On()
			}
		}
	}
}
