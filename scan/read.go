package scan

import (
	"iter"
	"slices"
	"sync"

	"shale/api"
	"shale/chip"
	"shale/leaf"
)

// lanes is how many goroutines read a chip's blocks side by side.
const lanes = 4

// readAll tells all whole pages, by place: the goroutines share the blocks among them in turn, so that what is received in turn comes in the blocks' order.
func readAll(c *chip.Chip) []Leaf {
	var out [lanes]chan []Leaf
	var readers sync.WaitGroup
	for n := range out {
		lane := make(chan []Leaf)
		out[n] = lane
		readers.Add(1)
		go func() {
			defer readers.Done()
			gather(c, n, lane)
		}()
	}
	var all []Leaf
	for block := range c.Geometry().Blocks {
		all = append(all, <-out[block%lanes]...)
	}
	readers.Wait()
	return all
}

// gather sends the leaves of one block in so many, each block's by themselves.
func gather(c *chip.Chip, first int, out chan<- []Leaf) {
	for block := first; block < c.Geometry().Blocks; block += lanes {
		out <- slices.Collect(wholePages(c, block))
	}
}

// wholePages yields those pages of a block that are whole, if it is not marked.
func wholePages(c *chip.Chip, block int) iter.Seq[Leaf] {
	return func(yield func(Leaf) bool) {
		for place, page := range pagesOf(c, block) {
			look, e := leaf.Open(c.Geometry(), page)
			if e == api.OK && look.State == api.LookWhole && !yield(Leaf{Place: place, Look: look}) {
				return
			}
		}
	}
}

// pagesOf yields the pages of a block, if it is not marked.
func pagesOf(c *chip.Chip, block int) iter.Seq2[api.Place, api.Page] {
	return func(yield func(api.Place, api.Page) bool) {
		if marked, e := c.Marked(block); marked || e != api.OK {
			return
		}
		for n := range c.Geometry().Pages {
			place := api.Place{Block: block, Page: n}
			page, e := c.Read(place)
			if e != api.OK || !yield(place, page) {
				return
			}
		}
	}
}
