package desk

import (
	"math"
	"math/rand"
	"reflect"
	"strings"
	"testing"

	"shale/api"
)

// shows fails unless Show tells this text, and Read the same orders of it (K2).
func shows(t *testing.T, want string, list ...api.Order) {
	t.Helper()
	text, e := Show(list)
	if e != api.OK || text != want {
		t.Errorf("K2: Show(%v): %.80q, %d, want %.80q", list, text, e, want)
		return
	}
	back, e, _, _ := Read(text)
	for i := range back {
		back[i].Line = 0
	}
	if e != api.OK || !sameOrders(back, unlined(list)) {
		t.Errorf("K2: %v is read as %v, %d", list, back, e)
	}
}

func unlined(list []api.Order) []api.Order {
	var same []api.Order
	for _, o := range list {
		o.Line = 0
		same = append(same, o)
	}
	return same
}

// hides fails unless Show refuses.
func hides(t *testing.T, want api.Errno, list ...api.Order) {
	t.Helper()
	if text, e := Show(list); text != "" || e != want {
		t.Errorf("K2: Show(%v): %.80q, %d, want %d", list, text, e, want)
	}
}

func TestShowEachCommand(t *testing.T) {
	shows(t, "")
	var all []api.Order
	text := ""
	for line, o := range each() {
		line = strings.TrimSuffix(line, " x") // a mask without bytes is left out
		if o.Kind == api.OrderLoad && len(o.Data) == 0 {
			line = "load x"
		}
		shows(t, line+"\n", o)
		o.Line = 77
		shows(t, line+"\n", o)
		all = append(all, o)
		text += line + "\n"
	}
	shows(t, text, all...)
	shows(t, "take / x\nwrite 0 0 x\nload x\nfault 0 fail 0\n",
		api.Order{Kind: api.OrderTake, Call: api.Call{Path: "/"}, Nums: []int{}, Data: []byte{}},
		called(api.CallWrite, api.Call{Data: []byte{}}),
		api.Order{Kind: api.OrderLoad, Call: api.Call{Data: []byte{}}},
		api.Order{Kind: api.OrderFault, Nums: []int{0, 1, 0}, Data: []byte{}})
}

func TestShowRefusesWhatIsNoCommand(t *testing.T) {
	for _, kind := range []int{0, 12, -1, 99, math.MaxInt, math.MinInt} {
		hides(t, api.ErrCommand, api.Order{Kind: kind})
		hides(t, api.ErrCommand, api.Order{Kind: kind, Call: api.Call{Op: api.CallSync}, Nums: []int{1}})
	}
	for _, op := range []int{0, 23, -1, 99, math.MaxInt, math.MinInt} {
		hides(t, api.ErrCommand, called(op, api.Call{}))
		hides(t, api.ErrCommand, api.Order{Kind: api.OrderCall, Call: api.Call{Op: op, Path: "/"}, Nums: []int{1}})
	}
}

// edits tells orders that differ from one in a field each; by their names.
func edits(o api.Order) map[string]api.Order {
	list := map[string]api.Order{}
	edit := func(name string, change func(o *api.Order)) {
		x := o
		x.Nums = append([]int(nil), o.Nums...)
		change(&x)
		list[name] = x
	}
	edit("Nums", func(o *api.Order) { o.Nums = append(o.Nums, 1) })
	edit("Data", func(o *api.Order) { o.Data = []byte{0} })
	edit("Op", func(o *api.Order) { o.Call.Op = api.CallSync })
	edit("Path", func(o *api.Order) { o.Call.Path = "p" })
	edit("To", func(o *api.Order) { o.Call.To = "t" })
	edit("Handle", func(o *api.Order) { o.Call.Handle = -9 })
	edit("At", func(o *api.Order) { o.Call.At = -9 })
	edit("Size", func(o *api.Order) { o.Call.Size = -9 })
	edit("CallData", func(o *api.Order) { o.Call.Data = []byte{0} })
	edit("Flags", func(o *api.Order) { o.Call.Flags = 1 })
	edit("Mode", func(o *api.Order) { o.Call.Mode = -9 })
	edit("Stamp", func(o *api.Order) { o.Call.Stamp = 9 })
	return list
}

// Every field that a command's line does not say must be zero, every list empty.
func TestShowRefusesWhatIsNotAskedFor(t *testing.T) {
	asked := map[string]string{
		"chip": "Nums", "fault": "Data", "load": "Data", "store": "Path", "take": "Path Data",
		"open": "Path Flags Mode", "close": "Handle", "read": "Handle At Size", "write": "Handle At CallData", "truncate": "Handle Size",
		"mkdir": "Path Mode", "rmdir": "Path", "unlink": "Path", "rename": "Path To", "link": "Path To", "target": "Path", "list": "Path",
		"stat": "Path", "look": "Path", "chmod": "Path Mode", "touch": "Path Stamp",
	}
	for line, o := range each() {
		word, _, _ := strings.Cut(line, " ")
		for field, x := range edits(o) {
			says := strings.Contains(" "+asked[word]+" ", " "+field+" ")
			_, e := Show([]api.Order{x})
			switch {
			case field == "Op" && o.Kind == api.OrderCall: // another command; what it asks for is another matter
			case says && e != api.OK, !says && e != api.ErrWord:
				t.Errorf("K2: %s with %s: %d", word, field, e)
			}
		}
	}
}

func TestShowRefusesWhatCannotBeSaid(t *testing.T) {
	// Another number of Nums.
	for kind, right := range map[int]int{api.OrderChip: 3, api.OrderFault: 3, api.OrderFlip: 3, api.OrderTrace: 1, api.OrderTree: 0, api.OrderAudit: 0, api.OrderDump: 0, api.OrderLoad: 0, api.OrderStore: 0, api.OrderTake: 0} {
		for n := range 6 {
			nums := []int{1, 1, 1, 1, 1, 1}[:n]
			o := api.Order{Kind: kind, Nums: nums}
			if _, e := Show([]api.Order{o}); (e == api.OK) != (n == right || kind == api.OrderChip && n > right) || e != api.OK && e != api.ErrWord {
				t.Errorf("K2: the kind %d with %d Nums: %d", kind, n, e)
			}
		}
	}
	// Numbers out of their ranges, wherever one stands.
	for _, n := range []int{1 << 31, -1 << 31, math.MaxInt, math.MinInt} {
		for i := range 5 {
			nums := []int{1, 1, 1, 1, 1}
			nums[i] = n
			hides(t, api.ErrWord, api.Order{Kind: api.OrderChip, Nums: nums})
			if i < 3 {
				hides(t, api.ErrWord, api.Order{Kind: api.OrderFlip, Nums: nums[:3]})
				hides(t, api.ErrWord, api.Order{Kind: api.OrderFault, Nums: nums[:3]})
			}
		}
		hides(t, api.ErrWord, api.Order{Kind: api.OrderTrace, Nums: []int{n}})
		hides(t, api.ErrWord, called(api.CallClose, api.Call{Handle: n}))
		for _, op := range []int{api.CallRead, api.CallWrite} {
			hides(t, api.ErrWord, called(op, api.Call{Handle: n}))
			hides(t, api.ErrWord, called(op, api.Call{At: n}))
		}
		hides(t, api.ErrWord, called(api.CallRead, api.Call{Size: n}))
		hides(t, api.ErrWord, called(api.CallTruncate, api.Call{Handle: n}))
		hides(t, api.ErrWord, called(api.CallTruncate, api.Call{Size: n}))
		for _, op := range []int{api.CallOpen, api.CallMkdir, api.CallChmod} {
			hides(t, api.ErrWord, called(op, api.Call{Mode: n}))
		}
	}
	for _, kind := range []int{0, 3, -1, 1 << 40} {
		hides(t, api.ErrWord, api.Order{Kind: api.OrderFault, Nums: []int{1, kind, 0}})
	}
	for _, fill := range []int{-1, 256, 1 << 40} {
		hides(t, api.ErrWord, api.Order{Kind: api.OrderFault, Nums: []int{1, 1, fill}})
	}
	for _, flags := range []int{32, 33, -1, 1 << 40, math.MinInt} {
		hides(t, api.ErrWord, called(api.CallOpen, api.Call{Path: "/", Flags: flags}))
	}
}

// The errors in their order: order by order, in each ErrCommand ahead of ErrWord; ErrLong behind all of them.
func TestShowErrorsInTheirOrder(t *testing.T) {
	none, odd, fine := api.Order{Kind: 12}, api.Order{Kind: api.OrderTree, Nums: []int{1}}, called(api.CallSync, api.Call{})
	long := api.Order{Kind: api.OrderLoad, Data: make([]byte, api.MaxText/2)}
	hides(t, api.ErrCommand, fine, none, odd)
	hides(t, api.ErrWord, fine, odd, none)
	hides(t, api.ErrLong, long)
	hides(t, api.ErrCommand, long, none)
	hides(t, api.ErrWord, long, odd, none)
	hides(t, api.ErrWord, long, fine, odd)
	hides(t, api.ErrLong, long, fine)
	hides(t, api.ErrLong, fine, long)
	long.Call.Path = "/"
	hides(t, api.ErrWord, long)
}

func TestShowLong(t *testing.T) {
	name := strings.Repeat("n", 1<<17-len("list \n"))
	var list []api.Order
	for range 31 {
		list = append(list, called(api.CallList, api.Call{Path: name}))
	}
	shows(t, strings.Repeat("list "+name+"\n", 32), append(list, called(api.CallList, api.Call{Path: name}))...)
	hides(t, api.ErrLong, append(list, called(api.CallList, api.Call{Path: name + "n"}))...)
	hides(t, api.ErrLong, append(list, called(api.CallList, api.Call{Path: name[1:]}), called(api.CallSync, api.Call{}))...)
	shows(t, "load x"+strings.Repeat("00", api.MaxText/2-4)+"\n", api.Order{Kind: api.OrderLoad, Data: make([]byte, api.MaxText/2-4)})
	hides(t, api.ErrLong, api.Order{Kind: api.OrderLoad, Data: make([]byte, api.MaxText/2-3)})
	hides(t, api.ErrLong, api.Order{Kind: api.OrderStore, Call: api.Call{Path: strings.Repeat("#", api.MaxText/3)}})
	hides(t, api.ErrLong, api.Order{Kind: api.OrderChip, Nums: make([]int, api.MaxText/2)})
}

// R4 and R5: what is handed in stays as it is, its spare room too.
func TestShowChangesNothing(t *testing.T) {
	made := func() []api.Order {
		return []api.Order{
			{Line: 5, Kind: api.OrderChip, Nums: []int{1, 2, 3, 4, 5}[:4], Data: []byte{1, 2}[:0]},
			{Kind: api.OrderFault, Nums: []int{1, 2, 3}, Data: []byte{1, 2, 3, 4}[:3]},
			called(api.CallWrite, api.Call{Handle: 3, At: 4, Data: []byte{1, 2, 3, 4}[:3]}),
			called(api.CallOpen, api.Call{Path: "/", Flags: 63}),
		}
	}
	list := made()
	Show(list[:3])
	Show(list)
	for i, o := range made() {
		if !reflect.DeepEqual(list[i], o) || !reflect.DeepEqual(list[i].Nums[:cap(list[i].Nums)], o.Nums[:cap(o.Nums)]) || !reflect.DeepEqual(list[i].Call.Data[:cap(list[i].Call.Data)], o.Call.Data[:cap(o.Call.Data)]) {
			t.Errorf("R4: Show changes the order %d", i)
		}
	}
}

// someOrder picks an order; its fields are filled as they come.
func someOrder(r *rand.Rand) api.Order {
	num := func() int { return someOf(r, 0, 0, 0, 1, 2, -1, 255, 256, 1<<31-1, 1-1<<31, 1<<31, r.Int()) }
	text := func() string { return someOf(r, "", "", "", "/", "/#", "%", "\x00 ", "a\xff") }
	data := func() []byte { return someOf(r, nil, nil, []byte{}, []byte{0}, []byte{255, 1}) }
	o := api.Order{Line: num(), Kind: someOf(r, 1, 1, 1, r.Intn(13)), Data: data()}
	for range someOf(r, 0, 0, 1, 3, 3, 4) {
		o.Nums = append(o.Nums, num())
	}
	if o.Kind == 1 {
		o.Call.Op = r.Intn(24)
	}
	fields := []func(){
		func() { o.Call.Path = text() }, func() { o.Call.To = text() }, func() { o.Call.Handle = num() }, func() { o.Call.At = num() }, func() { o.Call.Size = num() },
		func() { o.Call.Data = data() }, func() { o.Call.Flags = r.Intn(40) }, func() { o.Call.Mode = num() }, func() { o.Call.Stamp = r.Uint64() }, func() { o.Nums = nil }, func() { o.Data = nil },
	}
	for range r.Intn(7) {
		someOf(r, fields...)()
	}
	return o
}

// K2 and P10: what Show writes is read as just these orders.
func TestK2ThereAndBack(t *testing.T) {
	t.Parallel()
	ends := map[api.Errno]int{}
	for seed := range int64(30000) {
		r := rand.New(rand.NewSource(seed))
		o := someOrder(r)
		text, e := Show([]api.Order{o})
		ends[e]++
		if e != api.OK {
			continue
		}
		back, f, _, _ := Read(text)
		if f != api.OK || !sameOrders(unlined(back), unlined([]api.Order{o})) || strings.Count(text, "\n") != 1 {
			t.Fatalf("K2: %v is shown as %q, and read as %v, %d", o, text, back, f)
		}
		if again, e := Show(back); again != text || e != api.OK {
			t.Fatalf("K2: %q is shown as %q, %d", text, again, e)
		}
	}
	for e, least := range map[api.Errno]int{api.OK: 1500, api.ErrCommand: 1000, api.ErrWord: 10000} {
		if ends[e] < least {
			t.Errorf("%d orders answered %d", ends[e], e)
		}
	}
}

// P10: what a text says can be shown, whatever the text was: so nothing is refused that can be said.
func TestWhatIsReadCanBeShown(t *testing.T) {
	shown := 0
	for seed := range int64(3000) {
		r := rand.New(rand.NewSource(seed))
		list, e, _, _ := Read(someLine(r) + "\n" + someLine(r))
		if e != api.OK {
			continue
		}
		text, e := Show(list)
		back, f, _, _ := Read(text)
		if e != api.OK || f != api.OK || !sameOrders(unlined(back), unlined(list)) {
			t.Fatalf("P10: %v is shown as %.80q, %d", list, text, e)
		}
		shown++
	}
	if shown < 500 {
		t.Errorf("%d texts were shown", shown)
	}
}
