package tnode

const (
	digitBits = 4
	width     = 1 << digitBits // a pointer for each digit
)

// node has a level, from 0 on. Once it hangs in a tree it is never changed, but replaced by another: so who goes through a tree can go on through the nodes that were there when the going began.
type node[V any] struct {
	below  [width]*node[V] // above the level 0
	things [width]*V       // of the level 0
}

// span tells how many keys so many digits have.
func span(digits int) int { return 1 << (digitBits * digits) }

func digit(k, level int) int { return k >> (digitBits * level) % width }

// above is a node one level higher than n, whose keys stay as they are.
func above[V any](n *node[V]) *node[V] {
	return &node[V]{below: [width]*node[V]{n}}
}

// with is the node n, which may be nil, with v at the key k.
func (n *node[V]) with(level, k int, v V) *node[V] {
	var grown node[V]
	if n != nil {
		grown = *n
	}
	at := digit(k, level)
	if level == 0 {
		grown.things[at] = &v
	} else {
		grown.below[at] = grown.below[at].with(level-1, k, v)
	}
	return &grown
}

// without is what is left of n, nil if that is nothing, when all goes that is at the keys from from up to, but not at, to; and how much went. Keys are counted from n's first one on; from may lie ahead of it, to behind n's last one.
func (n *node[V]) without(level, from, to int) (*node[V], int) {
	left, gone := *n, 0
	for at := max(from, 0) / span(level); at < width && at*span(level) < to; at++ {
		if below := n.below[at]; below != nil {
			first := at * span(level)
			rest, less := below.without(level-1, from-first, to-first)
			left.below[at] = rest
			gone += less
		}
		if n.things[at] != nil {
			left.things[at] = nil
			gone++
		}
	}
	if left == (node[V]{}) {
		return nil, gone
	}
	return &left, gone
}

// leadsToFirstAlone tells whether all that is below n is below its first pointer.
func (n *node[V]) leadsToFirstAlone() bool { return *n == *above(n.below[0]) }

// each goes through what is below n, whose first key is first; false: it was stopped.
func (n *node[V]) each(level, first int, yield func(int, V) bool) bool {
	for at := range width {
		k := first + at*span(level)
		if below := n.below[at]; below != nil && !below.each(level-1, k, yield) {
			return false
		}
		if thing := n.things[at]; thing != nil && !yield(k, *thing) {
			return false
		}
	}
	return true
}
