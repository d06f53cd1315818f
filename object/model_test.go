package object

import (
	"cmp"
	"maps"
	"math"
	"reflect"
	"slices"
	"testing"

	"shale/api"
	"shale/node"
	"shale/tags"
)

// model is a table read off the chapter's words, slowly: what is current is asked of the objects each time anew.
type model struct {
	g       api.Geometry
	objects map[int]api.Object // Chunks in no order
}

func newModel(g api.Geometry) *model { return &model{g: g, objects: map[int]api.Object{}} }

func (m *model) capacity() int { return 256 * m.g.Sectors }

// current tells of each current place the object and the chunk, -1 for a header.
func (m *model) current() map[api.Place][2]int {
	all := map[api.Place][2]int{}
	for id, o := range m.objects {
		if o.Head {
			all[o.Place] = [2]int{id, -1}
		}
		for _, c := range o.Chunks {
			all[c.Piece.Place] = [2]int{id, c.Chunk}
		}
	}
	return all
}

func (m *model) apply(g api.Tags, data []byte, at api.Place) ([]api.Place, api.Errno) {
	if at.Block < 0 || at.Block >= m.g.Blocks || at.Page < 0 || at.Page >= m.g.Pages {
		return nil, api.ErrPlace
	}
	g.Zeros = 0
	if tags.Check(m.g, g) != api.OK {
		return nil, api.ErrField
	}
	if len(data) < g.Count {
		return nil, api.ErrRecord
	}
	if g.Kind == api.KindHead || g.Kind == api.KindSave {
		return nil, api.OK
	}
	before := m.current()
	if _, there := before[at]; there {
		return nil, api.ErrRecord
	}
	e := api.OK
	if g.Kind == api.KindNode {
		e = m.takeNode(g, data, at)
	} else {
		e = m.takeData(g, at)
	}
	return m.gone(before), e
}

func (m *model) takeNode(g api.Tags, data []byte, at api.Place) api.Errno {
	n, e := node.Read(data[:g.Count])
	if e != api.OK || n.Shadow == g.Object || n.Size > m.capacity()*(1<<20) {
		return api.ErrRecord
	}
	shadow := n.Shadow
	n.Shadow = 0
	o := m.objects[g.Object]
	o.Id, o.Head, o.Node, o.Place = g.Object, true, n, at
	var chunks []api.Chunk
	for _, c := range o.Chunks {
		if c.Chunk*m.capacity() >= n.Size { // it begins where all ends, or behind it
			continue
		}
		if c.Chunk == n.Size/m.capacity() && n.Size%m.capacity() != 0 && c.Piece.Count > n.Size%m.capacity() {
			c.Piece.Count = n.Size % m.capacity()
		}
		chunks = append(chunks, c)
	}
	o.Chunks = chunks
	m.objects[g.Object] = o
	if s, there := m.objects[shadow]; shadow != 0 && there && s.Head {
		s.Node.Parent = 0
		m.objects[shadow] = s
	}
	return api.OK
}

func (m *model) takeData(g api.Tags, at api.Place) api.Errno {
	o := m.objects[g.Object]
	if o.Head && o.Node.Type != api.TypeFile {
		return api.ErrRecord
	}
	o.Id = g.Object
	chunks := []api.Chunk{{Chunk: g.Chunk, Piece: api.Piece{Place: at, Count: g.Count}}}
	for _, c := range o.Chunks {
		if c.Chunk < g.Chunk || c.Chunk > g.Chunk && g.Flags != api.FlagCut {
			chunks = append(chunks, c)
		}
	}
	o.Chunks = chunks
	end := g.Chunk*m.capacity() + g.Count
	if o.Head && (g.Flags == api.FlagCut || o.Node.Size < end) {
		o.Node.Size = end
	}
	m.objects[g.Object] = o
	return api.OK
}

// gone tells what was current ahead of something and is not now.
func (m *model) gone(before map[api.Place][2]int) []api.Place {
	now := m.current()
	maps.DeleteFunc(before, func(p api.Place, _ [2]int) bool { _, there := now[p]; return there })
	return sortedPlaces(slices.Collect(maps.Keys(before)))
}

func sortedPlaces(list []api.Place) []api.Place {
	slices.SortFunc(list, func(a, b api.Place) int { return cmp.Compare(a.Block*1000+a.Page, b.Block*1000+b.Page) })
	return list
}

func (m *model) forget(id int) ([]api.Place, api.Errno) {
	if _, there := m.objects[id]; !there {
		return nil, api.ErrObject
	}
	before := m.current()
	delete(m.objects, id)
	return m.gone(before), api.OK
}

func (m *model) all() []api.Object {
	var list []api.Object
	for _, id := range slices.Sorted(maps.Keys(m.objects)) {
		o := m.objects[id]
		o.Chunks = slices.Clone(o.Chunks)
		slices.SortFunc(o.Chunks, func(a, b api.Chunk) int { return a.Chunk - b.Chunk })
		list = append(list, o)
	}
	return list
}

func (m *model) loose() []int {
	var list []int
	for id, o := range m.objects {
		if !o.Head || o.Node.Parent == 0 {
			list = append(list, id)
		}
	}
	slices.Sort(list)
	return list
}

func (m *model) fresh() int {
	for id := 2; ; id++ {
		if _, there := m.objects[id]; !there {
			return id
		}
	}
}

func (m *model) node(id int) (api.Node, api.Errno) {
	if id == 1 {
		return api.Node{Type: 2, Parent: 1, Mode: 493}, api.OK
	}
	if !m.objects[id].Head {
		return api.Node{}, api.ErrObject
	}
	return m.objects[id].Node, api.OK
}

func (m *model) find(parent int, name string) (int, bool) {
	least := math.MaxInt
	for id, o := range m.objects {
		if parent >= 1 && o.Head && o.Node.Parent == parent && o.Node.Name == name {
			least = min(least, id)
		}
	}
	if least == math.MaxInt {
		return 0, false
	}
	return least, true
}

func (m *model) list(parent int) ([]api.Entry, api.Errno) {
	if n, e := m.node(parent); e != api.OK || n.Type != api.TypeDir {
		return nil, api.ErrObject
	}
	var list []api.Entry
	for id, o := range m.objects {
		if !o.Head || o.Node.Parent != parent {
			continue
		}
		at := 0
		for at < len(list) && (list[at].Name < o.Node.Name || list[at].Name == o.Node.Name && list[at].Id < id) {
			at++
		}
		list = slices.Insert(list, at, api.Entry{Name: o.Node.Name, Id: id, Type: o.Node.Type})
	}
	return list, api.OK
}

// numbers are those of objects, and others, that tests ask for.
func numbers() []int {
	return []int{0, 1, 2, 3, 4, 5, 6, 7, 9, 15, 16, 17, 255, 256, api.MaxObject - 1, api.MaxObject, api.MaxObject + 1, -1, -2, 1<<32 + 2, math.MinInt, math.MaxInt}
}

func chunkNumbers() []int {
	return []int{0, 1, 2, 3, 4, 5, 15, 16, 17, 255, 256, 4096, api.MaxChunk - 1, api.MaxChunk, api.MaxChunk + 1, -1, -2, 1 << 32, math.MinInt, math.MaxInt}
}

func names() []string { return []string{"a", "b", "B", "ab", "a b", "\xff", "é", "", "z"} }

// same fails unless the table tells in all calls what the model does.
func same(t *testing.T, what string, x *Table, m *model) {
	t.Helper()
	if got, want := x.Objects(), m.all(); len(got)+len(want) > 0 && !reflect.DeepEqual(got, want) {
		t.Fatalf("%s: Objects\n%v, want\n%v", what, got, want)
	}
	sameOfNumbers(t, what, x, m)
	if !slices.Equal(x.Loose(), m.loose()) || x.Fresh() != m.fresh() {
		t.Fatalf("%s: Loose %v, Fresh %d, want %v, %d", what, x.Loose(), x.Fresh(), m.loose(), m.fresh())
	}
	current := m.current()
	if x.Live() != len(current) {
		t.Fatalf("%s: Live %d, want %d", what, x.Live(), len(current))
	}
	for block := -1; block <= m.g.Blocks; block++ {
		for page := -1; page <= m.g.Pages; page++ {
			p := api.Place{Block: block, Page: page}
			want, there := current[p]
			if id, chunk, ok := x.At(p); id != want[0] || chunk != want[1] || ok != there {
				t.Fatalf("%s: At(%v) = %d, %d, %v, want %v, %v", what, p, id, chunk, ok, want, there)
			}
		}
	}
}

func sameOfNumbers(t *testing.T, what string, x *Table, m *model) {
	t.Helper()
	for _, id := range numbers() {
		n, e := m.node(id)
		if got, f := x.Node(id); got != n || f != e {
			t.Fatalf("%s: Node(%d) = %v, %d, want %v, %d", what, id, got, f, n, e)
		}
		o := m.objects[id]
		if p, ok := x.Header(id); p != o.Place || ok != o.Head {
			t.Fatalf("%s: Header(%d) = %v, %v, want %v, %v", what, id, p, ok, o.Place, o.Head)
		}
		list, e := m.list(id)
		if got, f := x.List(id); !slices.Equal(got, list) || f != e {
			t.Fatalf("%s: List(%d) = %v, %d, want %v, %d", what, id, got, f, list, e)
		}
		for _, name := range names() {
			want, there := m.find(id, name)
			if got, ok := x.Find(id, name); got != want || ok != there {
				t.Fatalf("%s: Find(%d, %q) = %d, %v, want %d, %v", what, id, name, got, ok, want, there)
			}
		}
		for _, chunk := range chunkNumbers() {
			var want api.Piece
			at := slices.IndexFunc(o.Chunks, func(c api.Chunk) bool { return c.Chunk == chunk })
			if at >= 0 {
				want = o.Chunks[at].Piece
			}
			if got, ok := x.Piece(id, chunk); got != want || ok != (at >= 0) {
				t.Fatalf("%s: Piece(%d, %d) = %v, %v, want %v, %v", what, id, chunk, got, ok, want, at >= 0)
			}
		}
	}
}
