package chip

import (
	"slices"

	"shale/api"
)

// ones is the byte of a mask that lets everything through.
const ones = 255

// script hands out faults in their order: the next one is received ahead, as its number says when it is needed.
type script struct {
	later   chan api.Fault // closed behind the last one
	next    api.Fault
	hasNext bool
}

func faultsMayBe(faults []api.Fault) bool {
	if len(faults) > api.MaxEvents {
		return false
	}
	last := -1
	for _, f := range faults {
		if f.At <= last || f.Kind != api.FaultFail && f.Kind != api.FaultCut {
			return false
		}
		last = f.At
	}
	return true
}

// waiting is a script of faults; the channel has room for all of them, so that nobody waits to send.
func waiting(faults []api.Fault) script {
	later := make(chan api.Fault, len(faults))
	for _, f := range faults {
		f.Mask = slices.Clone(f.Mask)
		later <- f
	}
	close(later)
	s := script{later: later}
	s.next, s.hasNext = <-s.later
	return s
}

// meets tells the fault of the command of a number; one of no Kind, with a mask of ones, if there is none.
func (s *script) meets(number int) api.Fault {
	if !s.hasNext || s.next.At != number {
		return api.Fault{Fill: ones}
	}
	f := s.next
	s.next, s.hasNext = <-s.later
	return f
}
