package blocks

import (
	"cmp"
	"math"
	"math/rand"
	"reflect"
	"slices"
	"testing"

	"shale/api"
)

// model is a book read off the chapter's words, slowly: the log's blocks are sorted each time anew.
type model struct {
	g                    api.Geometry
	list                 []api.Block
	left                 map[int]int // waiting blocks that have left
	cursor, last, victim int
}

func newModel(g api.Geometry, list []api.Block, cursor, last int) *model {
	return &model{g: g, list: slices.Clone(list), left: map[int]int{}, cursor: cursor, last: last, victim: -1}
}

func (m *model) there(n int) bool { return 0 <= n && n < m.g.Blocks }

func (m *model) is(n int, states ...int) bool { return slices.Contains(states, m.list[n].State) }

func (m *model) opened() int {
	return slices.IndexFunc(m.list, func(x api.Block) bool { return x.State == 2 })
}

// logs tells the log's blocks in their order.
func (m *model) logs() []int {
	var list []int
	for n := range m.list {
		if m.is(n, 1, 2) || m.is(n, 4) && m.left[n] == 0 {
			list = append(list, n)
		}
	}
	slices.SortFunc(list, func(a, b int) int { return cmp.Compare(m.list[a].Head, m.list[b].Head) })
	return list
}

func (m *model) emptied(n int) {
	m.list[n] = api.Block{}
	if n == m.last {
		m.list[n].State = 5
	}
}

func (m *model) pick() (int, bool) {
	order := []int{}
	for n := m.cursor + 1; n < m.g.Blocks; n++ {
		order = append(order, n)
	}
	for n := 0; n <= m.cursor; n++ {
		order = append(order, n)
	}
	for _, n := range order {
		if m.is(n, 0) {
			m.cursor = n
			return n, true
		}
	}
	return 0, false
}

func (m *model) start(n int, head uint64) api.Errno {
	if !m.there(n) {
		return 41
	}
	if !m.is(n, 0) || m.opened() >= 0 || head == 0 || head > 1<<48-1 {
		return 110
	}
	for other, x := range m.list {
		if other != n && head <= x.Head {
			return 110
		}
	}
	m.list[n] = api.Block{State: 2, Head: head}
	return 0
}

func (m *model) live(n, more int) api.Errno {
	if !m.there(n) {
		return 41
	}
	if !slices.Contains(m.logs(), n) || more > 1000 || more < -1000 || m.list[n].Live+more < 0 || m.list[n].Live+more >= m.g.Pages {
		return 110
	}
	m.list[n].Live += more
	if m.is(n, 1) && m.list[n].Live == 0 && !m.list[n].Real && n != m.victim {
		m.emptied(n)
	}
	return 0
}

// closing does something to the open block, if there is one.
func (m *model) closing(do func(n int)) api.Errno {
	if m.opened() < 0 {
		return 110
	}
	do(m.opened())
	return 0
}

func (m *model) shut(n int) {
	if m.list[n].Real || m.list[n].Live > 0 {
		m.list[n].State = 1
	} else {
		m.emptied(n)
	}
}

func (m *model) bad(n int) api.Errno {
	if !m.there(n) {
		return 41
	}
	nothing := !m.list[n].Real && m.list[n].Live == 0
	if m.is(n, 0) || m.is(n, 4) && n != m.last && (nothing || m.left[n] == 1) {
		m.list[n] = api.Block{State: 6}
		return 0
	}
	return 110
}

func (m *model) oldest() (int, uint64, bool) {
	logs := m.logs()
	for at, n := range logs {
		if !m.is(n, 2) {
			if at+1 == len(logs) {
				return 0, 0, false
			}
			return n, m.list[logs[at+1]].Head, true
		}
	}
	return 0, 0, false
}

func (m *model) clean() (int, uint64, bool) {
	n, head, ok := m.oldest()
	ahead := m.victim
	m.victim = -1
	if ok {
		m.victim = n
	}
	if ahead >= 0 && ahead != m.victim && m.is(ahead, 1) && !m.list[ahead].Real && m.list[ahead].Live == 0 {
		m.emptied(ahead)
	}
	return n, head, ok
}

func (m *model) leave(n int) api.Errno {
	if !m.there(n) {
		return 41
	}
	if !m.is(n, 1) && !(m.is(n, 4) && m.left[n] == 0) || m.list[n].Live != 0 {
		return 110
	}
	if m.is(n, 1) {
		m.list[n].State = 3
	} else {
		m.left[n] = 1
	}
	if n == m.victim {
		m.victim = -1
	}
	return 0
}

func (m *model) commit(n int) ([]int, api.Errno) {
	if !m.there(n) {
		return nil, 41
	}
	if !m.is(n, 2) {
		return nil, 110
	}
	m.last = n
	var told []int
	for i, x := range m.list {
		if m.is(i, 3, 5) {
			m.list[i] = api.Block{}
		}
		if m.is(i, 4) && (m.left[i] == 1 || !x.Real && x.Live == 0) {
			told = append(told, i)
		}
	}
	return told, 0
}

func (m *model) count(states ...int) int {
	n := 0
	for i := range m.list {
		if m.is(i, states...) {
			n++
		}
	}
	return n
}

// same fails unless the book tells in all calls that only look what the model does.
func same(t *testing.T, what string, b *Blocks, m *model) {
	t.Helper()
	if got := b.List(); !slices.Equal(got, m.list) {
		t.Fatalf("%s: List\n%v, want\n%v", what, got, m.list)
	}
	good, near := m.g.Blocks-m.count(6, 4), m.count(0, 5, 3)
	if b.Good() != good || b.Near() != near || b.Logged() != len(m.logs()) || b.Cursor() != m.cursor {
		t.Fatalf("%s: Good %d, Near %d, Logged %d, Cursor %d, want %d, %d, %d, %d", what, b.Good(), b.Near(), b.Logged(), b.Cursor(), good, near, len(m.logs()), m.cursor)
	}
	n, head, ok := m.oldest()
	if a, h, is := b.Oldest(); a != n || h != head || is != ok {
		t.Fatalf("%s: Oldest %d, %d, %v, want %d, %d, %v", what, a, h, is, n, head, ok)
	}
	open := m.opened()
	if a, is := b.Open(); a != max(open, 0) || is != (open >= 0) {
		t.Fatalf("%s: Open %d, %v, want %d", what, a, is, open)
	}
}

// answer is what a call tells, whichever it is.
type answer struct {
	number int
	head   uint64
	is     bool
	list   []int
	e      api.Errno
}

// call is one that changes something.
type call struct {
	name  string
	block int
	more  int
	head  uint64
}

func (c call) of(b *Blocks) (a answer) {
	switch c.name {
	case "Pick":
		a.number, a.is = b.Pick()
	case "Start":
		a.e = b.Start(c.block, c.head)
	case "Real":
		a.e = b.Real()
	case "Live":
		a.e = b.Live(c.block, c.more)
	case "Shut":
		a.e = b.Shut()
	case "Wait":
		a.e = b.Wait()
	case "Bad":
		a.e = b.Bad(c.block)
	case "Clean":
		a.number, a.head, a.is = b.Clean()
	case "Leave":
		a.e = b.Leave(c.block)
	case "Commit":
		a.list, a.e = b.Commit(c.block)
	}
	return a
}

func (c call) ofModel(m *model) (a answer) {
	switch c.name {
	case "Pick":
		a.number, a.is = m.pick()
	case "Start":
		a.e = m.start(c.block, c.head)
	case "Real":
		a.e = m.closing(func(n int) { m.list[n].Real = true })
	case "Live":
		a.e = m.live(c.block, c.more)
	case "Shut":
		a.e = m.closing(m.shut)
	case "Wait":
		a.e = m.closing(func(n int) { m.list[n].State = 4 })
	case "Bad":
		a.e = m.bad(c.block)
	case "Clean":
		a.number, a.head, a.is = m.clean()
	case "Leave":
		a.e = m.leave(c.block)
	case "Commit":
		a.list, a.e = m.commit(c.block)
	}
	return a
}

func someOf[T any](r *rand.Rand, list ...T) T { return list[r.Intn(len(list))] }

// someCall picks one of which most may be in the state that the model is in.
func someCall(r *rand.Rand, m *model) call {
	c := call{name: someOf(r, "Pick", "Start", "Start", "Real", "Live", "Live", "Live", "Live", "Shut", "Wait", "Bad", "Clean", "Leave", "Leave", "Commit", "Commit")}
	c.block = r.Intn(m.g.Blocks)
	if open := m.opened(); open >= 0 && (c.name == "Commit" || c.name == "Live") && r.Intn(3) > 0 {
		c.block = open
	}
	if c.name == "Start" && r.Intn(4) > 0 {
		c.block = max(m.cursor, 0)
	}
	if c.name == "Leave" && m.victim >= 0 && r.Intn(2) > 0 {
		c.block = m.victim
	}
	c.more = someOf(r, -1, -1, 1, 1, 0, 2, -2, -m.list[c.block].Live)
	for _, x := range m.list {
		c.head = max(c.head, x.Head)
	}
	c.head += uint64(someOf(r, 1, 1, 1, 2, 5))
	if r.Intn(25) == 0 {
		c.block = someOf(r, -1, m.g.Blocks, math.MinInt, math.MaxInt, 1<<32)
		c.more = someOf(r, math.MaxInt, math.MinInt, m.g.Pages, -m.g.Pages)
		c.head = someOf[uint64](r, 0, 1, api.MaxSerial+1, math.MaxUint64)
	}
	if r.Intn(25) == 0 {
		c.more = someOf(r, math.MaxInt, math.MinInt, m.g.Pages, -m.g.Pages)
		c.head = someOf(r, 0, 1, c.head-1, api.MaxSerial, api.MaxSerial+1, math.MaxUint64)
	}
	return c
}

// someList picks one that may be, with a last block that fits it.
func someList(r *rand.Rand, g api.Geometry) ([]api.Block, int) {
	list := make([]api.Block, g.Blocks)
	heads := r.Perm(3 * g.Blocks)
	open := r.Intn(g.Blocks)
	for n := range list {
		x := api.Block{State: someOf(r, 0, 0, 0, 1, 1, 1, 3, 4, 4, 6)}
		if n == open && r.Intn(2) == 0 {
			x.State = 2
		}
		if x.State >= 1 && x.State <= 4 {
			x.Head = uint64(heads[n] + 1)
			x.Real = r.Intn(2) == 0
			x.Live = r.Intn(g.Pages)
			if x.State == 3 {
				x.Live = 0
			}
			if x.State == 1 && x.Live == 0 {
				x.Real = true
			}
		}
		list[n] = x
	}
	last := r.Intn(g.Blocks+1) - 1
	if last >= 0 && (list[last].State == 0 || list[last].State == 6) {
		list[last] = api.Block{State: 5}
	}
	return list, last
}

func TestAsTheModel(t *testing.T) {
	done := map[string]int{}
	for seed := range int64(400) {
		r := rand.New(rand.NewSource(seed))
		g := api.Geometry{Blocks: 8 + r.Intn(5), Pages: 4 + r.Intn(3), Sectors: 1}
		list, last := make([]api.Block, g.Blocks), -1
		if seed%2 == 0 {
			list, last = someList(r, g)
		}
		cursor := r.Intn(g.Blocks+1) - 1
		b, e := New(g, list, cursor, last)
		if e != api.OK {
			t.Fatalf("seed %d: New(%v, %d, %d): %d", seed, list, cursor, last, e)
		}
		m := newModel(g, list, cursor, last)
		same(t, "New", b, m)
		for i := range 300 {
			c := someCall(r, m)
			before := b.List()
			want, got := c.ofModel(m), c.of(b)
			if !reflect.DeepEqual(got, want) {
				t.Fatalf("seed %d, call %d, %v: %v, want %v", seed, i, c, got, want)
			}
			if got.e != api.OK && !slices.Equal(before, b.List()) {
				t.Fatalf("seed %d, call %d, %v: refused, but something has changed", seed, i, c)
			}
			if got.e == api.OK {
				done[c.name]++
			}
			same(t, c.name, b, m)
		}
	}
	for _, name := range []string{"Pick", "Start", "Real", "Live", "Shut", "Wait", "Bad", "Clean", "Leave", "Commit"} {
		if done[name] < 300 {
			t.Errorf("%s was done %d times only", name, done[name])
		}
	}
}
