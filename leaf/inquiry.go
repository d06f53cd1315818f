package leaf

import (
	"shale/api"
	"shale/hamming"
	"shale/tags"
	"shale/words"
)

// inquiry is what the steps have found out of a page so far, each for those behind it.
type inquiry struct {
	g          api.Geometry
	page       api.Page
	tags       api.Tags
	data, sums []byte // as put right
	fixed      int
}

// step asks one thing of a page; true: it gives up, as the page is in that state.
type step func(*inquiry) (state int, over bool)

// verdict tells what the first step says that gives up; a page at which none does is whole.
func (q *inquiry) verdict() api.Look {
	for _, ask := range []step{
		(*inquiry).blank,
		(*inquiry).liftTags,
		(*inquiry).fixSectors,
		(*inquiry).countZeros,
		(*inquiry).endContent,
	} {
		if state, over := ask(q); over {
			return api.Look{State: state}
		}
	}
	return api.Look{State: api.LookWhole, Tags: q.tags, Data: q.data, Fixed: q.fixed}
}

func (q *inquiry) blank() (int, bool) {
	return api.LookBlank, words.Zeros(q.page.Data) == 0 && words.Zeros(q.page.Spare) == 0
}

func (q *inquiry) liftTags() (int, bool) {
	t, pair, e := tags.Lift(q.page.Spare[:api.RailBytes])
	if e != api.OK || tags.Check(q.g, t) != api.OK {
		return api.LookBroken, true
	}
	q.tags = t
	q.putRight(pair)
	return api.LookBroken, false
}

func (q *inquiry) fixSectors() (int, bool) {
	q.data = make([]byte, 0, len(q.page.Data))
	for i := range q.g.Sectors {
		var sum [sumBytes]byte
		copy(sum[:], q.page.Spare[api.RailBytes+sumBytes*i:])
		right, rightSum, bit, e := hamming.Fix(q.page.Data[api.Sector*i:api.Sector*(i+1)], sum)
		if e != api.OK {
			return api.LookBroken, true
		}
		q.data = append(q.data, right...)
		q.sums = append(q.sums, rightSum[:]...)
		q.putRight(bit)
	}
	return api.LookBroken, false
}

// putRight counts what a unit tells of: the number of what was put right, below 0 if nothing was.
func (q *inquiry) putRight(number int) {
	if number >= 0 {
		q.fixed++
	}
}

// countZeros sees what putting right cannot see: several zeros that are missing in one sector.
func (q *inquiry) countZeros() (int, bool) {
	return api.LookBroken, words.Zeros(q.data)+words.Zeros(q.sums) != q.tags.Zeros
}

func (q *inquiry) endContent() (int, bool) {
	return api.LookBroken, words.Zeros(q.data[q.tags.Count:]) != 0
}
