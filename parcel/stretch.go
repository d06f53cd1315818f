package parcel

import "iter"

// leastHole is how many bytes 0 must follow one another to be a hole.
const leastHole = 16

// The kinds of stretches.
const (
	kindHole = iota
	kindFilled
)

// stretch is a part of a file's data.
type stretch struct {
	at, size int
	bytes    []byte // nil: a hole
}

func (s stretch) kind() int {
	if s.bytes == nil {
		return kindHole
	}
	return kindFilled
}

// stretches cuts data into holes and what is filled, in their order.
func stretches(data []byte) iter.Seq[stretch] {
	return func(yield func(stretch) bool) {
		for from := 0; from < len(data); {
			at, end := firstHole(data, from)
			if at > from && !yield(stretch{at: from, size: at - from, bytes: data[from:at]}) {
				return
			}
			if end > at && !yield(stretch{at: at, size: end - at}) {
				return
			}
			from = end
		}
	}
}

// firstHole tells where the first hole from a place on begins and ends: both at the data's end, if there is none.
func firstHole(data []byte, from int) (int, int) {
	for at := from; at < len(data); at++ {
		end := at
		for end < len(data) && data[end] == 0 {
			end++
		}
		if end-at >= leastHole {
			return at, end
		}
		at = end
	}
	return len(data), len(data)
}
