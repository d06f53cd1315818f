package tnode

import (
	"maps"
	"math"
	"math/rand"
	"reflect"
	"slices"
	"testing"

	"shale/api"
)

// edges are keys at which a digit, or a level, begins or ends.
func edges() []int {
	return []int{0, 1, 15, 16, 17, 31, 32, 255, 256, 257, 4095, 4096, 4097, 65535, 65536, 65537, 983039, 983040, api.MaxChunk - 1, api.MaxChunk}
}

// strays are no keys.
func strays() []int {
	return []int{-1, -2, -16, -4096, api.MaxChunk + 1, api.MaxChunk + 2, 1 << 24, 1 << 32, 1<<32 + 5, -1 << 32, math.MinInt, math.MinInt + 1, math.MaxInt - 1, math.MaxInt}
}

// heightOf follows the chapter's words.
func heightOf(keys map[int]int) int {
	if len(keys) == 0 {
		return 0
	}
	greatest := slices.Max(slices.Collect(maps.Keys(keys)))
	h := 1
	for power := 16; greatest >= power; power *= 16 {
		h++
	}
	return h
}

// built is a tree of these things, put by rising keys.
func built(things map[int]int) *Tree[int] {
	x := New[int]()
	for _, k := range slices.Sorted(maps.Keys(things)) {
		x.Put(k, things[k])
	}
	return x
}

// same fails unless x holds just these things, and is, node by node, what a new tree of them is: nothing is left of the way that it has come.
func same(t *testing.T, what string, x *Tree[int], things map[int]int) {
	t.Helper()
	if x.Len() != len(things) || x.Height() != heightOf(things) {
		t.Fatalf("%s: %d things, height %d, want %d, %d", what, x.Len(), x.Height(), len(things), heightOf(things))
	}
	keys := slices.Sorted(maps.Keys(things))
	i := 0
	for k, v := range x.All() {
		if i >= len(keys) || k != keys[i] || v != things[k] {
			t.Fatalf("%s: All tells %d at %d as number %d", what, v, k, i)
		}
		i++
	}
	if i != len(keys) {
		t.Fatalf("%s: All tells %d things of %d", what, i, len(keys))
	}
	if !reflect.DeepEqual(x, built(things)) {
		t.Fatalf("%s: other nodes than those of a new tree", what)
	}
	for _, k := range slices.Concat(edges(), strays()) {
		want, there := things[k]
		if v, ok := x.Get(k); v != want || ok != there {
			t.Fatalf("%s: Get(%d) = %d, %v, want %d, %v", what, k, v, ok, want, there)
		}
	}
}

func TestP91New(t *testing.T) {
	x, y := New[int](), New[int]()
	same(t, "new", x, nil)
	x.Put(5, 50)
	x.Put(500, 7)
	same(t, "the other tree", y, nil)
	y.Put(5, 51)
	y.Put(3, 52)
	y.Cut(4)
	same(t, "the one", x, map[int]int{5: 50, 500: 7})
	same(t, "the other", y, map[int]int{3: 52})
}

func TestExamples(t *testing.T) {
	x := New[string]()
	get := func(k int, want string, there bool) {
		t.Helper()
		if v, ok := x.Get(k); v != want || ok != there {
			t.Errorf("Get(%d) = %q, %v", k, v, ok)
		}
	}
	put := func(k int, v string, want api.Errno) {
		t.Helper()
		if e := x.Put(k, v); e != want {
			t.Errorf("Put(%d) = %d, want %d", k, e, want)
		}
	}
	stands := func(n, height int) {
		t.Helper()
		if x.Len() != n || x.Height() != height {
			t.Errorf("%d things, height %d, want %d, %d", x.Len(), x.Height(), n, height)
		}
	}
	stands(0, 0)
	get(0, "", false)
	put(5, "a", api.OK)
	put(15, "b", api.OK)
	stands(2, 1)
	put(16, "c", api.OK)
	stands(3, 2)
	put(256, "d", api.OK)
	stands(4, 3)
	put(5, "e", api.OK)
	get(5, "e", true)
	stands(4, 3)
	if all := maps.Collect(x.All()); !maps.Equal(all, map[int]string{5: "e", 15: "b", 16: "c", 256: "d"}) {
		t.Errorf("All: %v", all)
	}
	put(-1, "x", api.ErrKey)
	put(1048576, "x", api.ErrKey)
	put(1048575, "z", api.OK)
	stands(5, 5)
	if n := x.Cut(200); n != 2 {
		t.Errorf("Cut(200) = %d", n)
	}
	stands(3, 2)
	if !x.Drop(16) || x.Drop(16) {
		t.Error("Drop(16)")
	}
	stands(2, 1)
	if n := x.Cut(-3); n != 2 {
		t.Errorf("Cut(-3) = %d", n)
	}
	stands(0, 0)
}

func TestP92PutAtEveryEdge(t *testing.T) {
	x, things := New[int](), map[int]int{}
	for _, k := range edges() {
		if e := x.Put(k, k+1); e != api.OK {
			t.Errorf("Put(%d) = %d", k, e)
		}
		things[k] = k + 1
		same(t, "put", x, things)
	}
	for i, k := range edges() {
		if e := x.Put(k, i); e != api.OK {
			t.Errorf("Put(%d) again = %d", k, e)
		}
		things[k] = i
		same(t, "put again", x, things)
	}
}

func TestP92WrongKeys(t *testing.T) {
	for _, things := range []map[int]int{nil, {0: 1}, {15: 2, 256: 3}, {0: 1, api.MaxChunk: 4}} {
		x := built(things)
		for _, k := range strays() {
			if e := x.Put(k, 9); e != api.ErrKey {
				t.Errorf("Put(%d) = %d, want ErrKey", k, e)
			}
			same(t, "refused", x, things)
		}
	}
}

func TestP93DropAndGetOfWhatIsNotThere(t *testing.T) {
	for _, things := range []map[int]int{nil, {0: 1}, {7: 1}, {15: 2, 256: 3}, {5: 5, api.MaxChunk: 4}} {
		x := built(things)
		for _, k := range slices.Concat(edges(), strays(), []int{6, 23, 262, 271}) { // 271: its last digit is a key
			if _, there := things[k]; there {
				continue
			}
			if v, ok := x.Get(k); v != 0 || ok {
				t.Errorf("Get(%d) = %d, %v", k, v, ok)
			}
			if x.Drop(k) {
				t.Errorf("Drop(%d) of %v: true", k, things)
			}
			same(t, "nothing was dropped", x, things)
		}
	}
}

func TestP93DropEach(t *testing.T) {
	things := map[int]int{}
	for i, k := range edges() {
		things[k] = i
	}
	for _, k := range edges() {
		x, left := built(things), maps.Clone(things)
		if !x.Drop(k) {
			t.Errorf("Drop(%d): false", k)
		}
		delete(left, k)
		same(t, "dropped", x, left)
		if x.Drop(k) {
			t.Errorf("Drop(%d) again: true", k)
		}
		same(t, "dropped again", x, left)
	}
}

func TestP93CutFromEverywhere(t *testing.T) {
	things := map[int]int{}
	for i, k := range edges() {
		things[k] = i
	}
	from := slices.Concat(edges(), strays(), []int{2, 18, 200, 300, 5000, 70000})
	for _, at := range from {
		x, left := built(things), maps.Clone(things)
		maps.DeleteFunc(left, func(k, _ int) bool { return k >= at })
		if n := x.Cut(at); n != len(things)-len(left) {
			t.Errorf("Cut(%d) = %d, want %d", at, n, len(things)-len(left))
		}
		same(t, "cut", x, left)
		if n := x.Cut(at); n != 0 {
			t.Errorf("Cut(%d) again = %d", at, n)
		}
		same(t, "cut again", x, left)
	}
	for _, at := range from {
		if n := New[int]().Cut(at); n != 0 {
			t.Errorf("Cut(%d) of nothing = %d", at, n)
		}
	}
}

func TestP94HeightOfEachKeyAlone(t *testing.T) {
	for _, c := range []struct{ key, height int }{
		{0, 1}, {1, 1}, {15, 1}, {16, 2}, {255, 2}, {256, 3}, {4095, 3}, {4096, 4}, {65535, 4}, {65536, 5}, {api.MaxChunk, 5},
	} {
		x := New[int]()
		x.Put(c.key, 1)
		if x.Height() != c.height || x.Len() != 1 {
			t.Errorf("the key %d alone: height %d, want %d", c.key, x.Height(), c.height)
		}
	}
}

// going gathers what a going through tells, with something done at each thing.
func going(x *Tree[int], at func(k int) bool) map[int]int {
	got := map[int]int{}
	for k, v := range x.All() {
		got[k] = v
		if !at(k) {
			break
		}
	}
	return got
}

func TestP95WhatIsDoneMeanwhile(t *testing.T) {
	things := map[int]int{0: 1, 3: 2, 15: 3, 16: 4, 300: 5, 5000: 6, 70000: 7, api.MaxChunk: 8}
	for name, do := range map[string]func(x *Tree[int], k int){
		"cut all":            func(x *Tree[int], k int) { x.Cut(0) },
		"cut what comes":     func(x *Tree[int], k int) { x.Cut(k + 1) },
		"drop it":            func(x *Tree[int], k int) { x.Drop(k) },
		"drop all":           func(x *Tree[int], k int) { dropAll(x) },
		"put what comes":     func(x *Tree[int], k int) { x.Put(k+1, 99) },
		"put others in":      func(x *Tree[int], k int) { putAnew(x) },
		"cut, then put":      func(x *Tree[int], k int) { x.Cut(0); putAnew(x) },
		"put, then cut some": func(x *Tree[int], k int) { putAnew(x); x.Cut(16) },
	} {
		x := built(things)
		if got := going(x, func(k int) bool { do(x, k); return true }); !maps.Equal(got, things) {
			t.Errorf("%s: %v", name, got)
		}
		same(t, "behind it: "+name, x, maps.Collect(x.All()))
	}
}

func dropAll(x *Tree[int]) {
	for _, k := range edges() {
		x.Drop(k)
	}
	x.Drop(3)
	x.Drop(300)
	x.Drop(5000)
	x.Drop(70000)
}

func putAnew(x *Tree[int]) {
	for i, k := range slices.Concat(edges(), []int{3, 300, 5000, 70000}) {
		x.Put(k, 1000+i)
	}
}

func TestP95TheGoingBeginsWhenItIsGone(t *testing.T) {
	x := New[int]()
	all := x.All()
	if n := len(maps.Collect(all)); n != 0 {
		t.Errorf("%d things of none", n)
	}
	x.Put(5, 1)
	x.Put(400, 2)
	if got := maps.Collect(all); !maps.Equal(got, map[int]int{5: 1, 400: 2}) {
		t.Errorf("gone through behind the Put: %v", got)
	}
	x.Put(5, 3)
	x.Drop(400)
	if got := maps.Collect(all); !maps.Equal(got, map[int]int{5: 3}) {
		t.Errorf("gone through again: %v", got)
	}
}

func TestP95Stopped(t *testing.T) {
	things := map[int]int{}
	for i, k := range edges() {
		things[k] = i
	}
	x := built(things)
	for n := range edges() {
		var got []int
		x.All()(func(k, v int) bool { // called by hand: a call behind the stop would not be caught by a range
			got = append(got, k)
			return len(got) <= n
		})
		if !slices.Equal(got, edges()[:n+1]) {
			t.Errorf("stopped behind %d: %v", n+1, got)
		}
	}
	same(t, "stopped", x, things)
}

func TestP95GoingsInOneAnother(t *testing.T) {
	x := built(map[int]int{1: 1, 20: 2, 300: 3})
	all, sum := x.All(), 0
	for _, a := range all {
		for _, b := range all {
			sum += 10*a + b
		}
	}
	if sum != 3*(10+20+30)+3*(1+2+3) {
		t.Errorf("the sum is %d", sum)
	}
}

func TestP96ThingsAreKeptAsTheyArePut(t *testing.T) {
	row := []byte{1, 2, 3}
	x := New[[]byte]()
	x.Put(9, row[:2])
	row[0] = 7
	got, _ := x.Get(9)
	if got[0] != 7 || len(got) != 2 || cap(got) != cap(row) || &got[0] != &row[0] {
		t.Errorf("%v, capacity %d", got, cap(got))
	}
	for _, v := range x.All() {
		if &v[0] != &row[0] {
			t.Error("All tells another memory")
		}
	}
	y := New[[3]int]()
	array := [3]int{1, 2, 3}
	y.Put(0, array)
	array[0] = 9
	if v, ok := y.Get(0); v != [3]int{1, 2, 3} || !ok {
		t.Errorf("an array is no more what it was: %v", v)
	}
}

func TestP96ZeroThingsAreThings(t *testing.T) {
	x := New[*int]()
	x.Put(3, nil)
	x.Put(17, nil)
	if v, ok := x.Get(3); v != nil || !ok || x.Len() != 2 || x.Height() != 2 {
		t.Errorf("%v, %v, %d, %d", v, ok, x.Len(), x.Height())
	}
	n := 0
	for range x.All() {
		n++
	}
	if n != 2 || x.Cut(4) != 1 || !x.Drop(3) || x.Drop(3) {
		t.Error("things that are nil are not gone through, cut or dropped as others")
	}
	y := New[struct{}]()
	y.Put(0, struct{}{})
	if _, ok := y.Get(0); !ok || y.Len() != 1 || !y.Drop(0) || y.Len() != 0 {
		t.Error("things without bytes")
	}
	z := New[any]()
	z.Put(8, []int{1}) // no thing is ever compared: this one could not be
	z.Put(9, func() {})
	if z.Cut(0) != 2 || z.Height() != 0 {
		t.Error("things that can't be compared")
	}
}

// pickKey picks keys that often meet, near one another and far away.
func pickKey(r *rand.Rand) int {
	switch r.Intn(4) {
	case 0:
		return r.Intn(40)
	case 1:
		return edges()[r.Intn(len(edges()))]
	case 2:
		return r.Intn(1 << (1 + r.Intn(20)))
	default:
		return 250 + r.Intn(20)
	}
}

func TestP97P98ManyCalls(t *testing.T) {
	for seed := range int64(60) {
		r := rand.New(rand.NewSource(seed))
		x, things := New[int](), map[int]int{}
		for range 300 {
			k := pickKey(r)
			switch r.Intn(8) {
			case 0, 1:
				_, there := things[k]
				if x.Drop(k) != there {
					t.Fatalf("Drop(%d) is not %v", k, there)
				}
				delete(things, k)
			case 2:
				before := len(things)
				maps.DeleteFunc(things, func(key, _ int) bool { return key >= k })
				if n := x.Cut(k); n != before-len(things) {
					t.Fatalf("Cut(%d) = %d, want %d", k, n, before-len(things))
				}
			default:
				things[k] = r.Intn(1000)
				if e := x.Put(k, things[k]); e != api.OK {
					t.Fatalf("Put(%d) = %d", k, e)
				}
			}
			want, there := things[k]
			if v, ok := x.Get(k); v != want || ok != there {
				t.Fatalf("Get(%d) = %d, %v, want %d, %v", k, v, ok, want, there)
			}
			same(t, "many calls", x, things)
		}
	}
}

func TestP99DropAndCutUndoPut(t *testing.T) {
	r := rand.New(rand.NewSource(9))
	for range 200 {
		things := map[int]int{}
		for range r.Intn(30) {
			things[pickKey(r)] = r.Intn(100)
		}
		x := built(things)
		var since []int
		for range r.Intn(30) {
			if k := pickKey(r); !hasKey(things, k) {
				x.Put(k, 1)
				since = append(since, k)
			}
		}
		r.Shuffle(len(since), func(i, j int) { since[i], since[j] = since[j], since[i] })
		for _, k := range since {
			x.Drop(k)
		}
		same(t, "dropped again", x, things)
		from := 0
		for k := range things {
			from = max(from, k+1)
		}
		for k := from; k <= api.MaxChunk; k += 1 + r.Intn(20000) {
			x.Put(k, 2)
		}
		x.Cut(from)
		same(t, "cut again", x, things)
	}
}

func hasKey(things map[int]int, k int) bool {
	_, there := things[k]
	return there
}

func TestAllKeysAtOnce(t *testing.T) {
	x := New[int]()
	for k := api.MaxChunk; k >= 0; k-- {
		if e := x.Put(k, ^k); e != api.OK {
			t.Fatalf("Put(%d) = %d", k, e)
		}
	}
	next := 0
	for k, v := range x.All() {
		if k != next || v != ^k {
			t.Fatalf("%d at %d, want the key %d", v, k, next)
		}
		next++
	}
	if next != api.MaxChunk+1 || x.Len() != next || x.Height() != 5 {
		t.Errorf("%d things, %d, height %d", next, x.Len(), x.Height())
	}
	if n := x.Cut(17); n != api.MaxChunk+1-17 || x.Len() != 17 || x.Height() != 2 {
		t.Errorf("Cut(17) = %d, %d left, height %d", n, x.Len(), x.Height())
	}
}
