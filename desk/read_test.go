package desk

import (
	"bytes"
	"fmt"
	"reflect"
	"slices"
	"strings"
	"testing"

	"shale/api"
)

func called(op int, c api.Call) api.Order {
	c.Op = op
	return api.Order{Kind: api.OrderCall, Call: c}
}

// each has, of every command, a line and its order; the line is the one that Show writes.
func each() map[string]api.Order {
	return map[string]api.Order{
		"chip 12 4 1":                   {Kind: api.OrderChip, Nums: []int{12, 4, 1}},
		"chip 12 4 1 3 -7 3":            {Kind: api.OrderChip, Nums: []int{12, 4, 1, 3, -7, 3}},
		"fault 5 fail 0":                {Kind: api.OrderFault, Nums: []int{5, 1, 0}},
		"fault -5 cut 255":              {Kind: api.OrderFault, Nums: []int{-5, 2, 255}},
		"fault 9 cut 7 x00ff":           {Kind: api.OrderFault, Nums: []int{9, 2, 7}, Data: []byte{0, 255}},
		"flip 1 2 -3":                   {Kind: api.OrderFlip, Nums: []int{1, 2, -3}},
		"load x":                        {Kind: api.OrderLoad},
		"load x5348":                    {Kind: api.OrderLoad, Data: []byte{0x53, 0x48}},
		"tree":                          {Kind: api.OrderTree},
		"audit":                         {Kind: api.OrderAudit},
		"dump":                          {Kind: api.OrderDump},
		"trace -1":                      {Kind: api.OrderTrace, Nums: []int{-1}},
		"store /d":                      {Kind: api.OrderStore, Call: api.Call{Path: "/d"}},
		"take %20 x01":                  {Kind: api.OrderTake, Call: api.Call{Path: " "}, Data: []byte{1}},
		"open /a rwcne -1":              called(api.CallOpen, api.Call{Path: "/a", Flags: 31, Mode: -1}),
		"open % - 0":                    called(api.CallOpen, api.Call{}),
		"close 1":                       called(api.CallClose, api.Call{Handle: 1}),
		"read 1 2 3":                    called(api.CallRead, api.Call{Handle: 1, At: 2, Size: 3}),
		"write -1 -2 x616263":           called(api.CallWrite, api.Call{Handle: -1, At: -2, Data: []byte("abc")}),
		"truncate 1 2":                  called(api.CallTruncate, api.Call{Handle: 1, Size: 2}),
		"mkdir /d 493":                  called(api.CallMkdir, api.Call{Path: "/d", Mode: 493}),
		"rmdir /d":                      called(api.CallRmdir, api.Call{Path: "/d"}),
		"unlink /d":                     called(api.CallUnlink, api.Call{Path: "/d"}),
		"rename /a /b":                  called(api.CallRename, api.Call{Path: "/a", To: "/b"}),
		"link /a b":                     called(api.CallLink, api.Call{Path: "/a", To: "b"}),
		"target /a":                     called(api.CallTarget, api.Call{Path: "/a"}),
		"list /":                        called(api.CallList, api.Call{Path: "/"}),
		"stat /a":                       called(api.CallStat, api.Call{Path: "/a"}),
		"look /a":                       called(api.CallLook, api.Call{Path: "/a"}),
		"chmod /a 0":                    called(api.CallChmod, api.Call{Path: "/a"}),
		"touch /a 5":                    called(api.CallTouch, api.Call{Path: "/a", Stamp: 5}),
		"touch % 0":                     called(api.CallTouch, api.Call{}),
		"sync":                          called(api.CallSync, api.Call{}),
		"usage":                         called(api.CallUsage, api.Call{}),
		"unmount":                       called(api.CallUnmount, api.Call{}),
		"mount":                         called(api.CallMount, api.Call{}),
		"format":                        called(api.CallFormat, api.Call{}),
		"power":                         called(api.CallPower, api.Call{}),
		"touch / 18446744073709551615":  called(api.CallTouch, api.Call{Path: "/", Stamp: 1<<64 - 1}),
		"read 2147483647 -2147483647 0": called(api.CallRead, api.Call{Handle: 1<<31 - 1, At: 1 - 1<<31}),
		"fault 2147483647 fail 1 x":     {Kind: api.OrderFault, Nums: []int{1<<31 - 1, 1, 1}},
		"link /%25%23%00%7f%ff%0a !\"$&'(~%20%09": called(api.CallLink, api.Call{Path: "/%#\x00\x7f\xff\n", To: "!\"$&'(~ \t"}),
	}
}

// sameOrders holds lists against each other; lists within that are nil or empty are the same (R3).
func sameOrders(a, b []api.Order) bool {
	return slices.EqualFunc(a, b, func(x, y api.Order) bool {
		same := slices.Equal(x.Nums, y.Nums) && bytes.Equal(x.Data, y.Data) && bytes.Equal(x.Call.Data, y.Call.Data)
		x.Nums, x.Data, x.Call.Data = nil, nil, nil
		y.Nums, y.Data, y.Call.Data = nil, nil, nil
		return same && reflect.DeepEqual(x, y)
	})
}

// reads fails unless Read tells just these orders.
func reads(t *testing.T, text string, want ...api.Order) {
	t.Helper()
	list, e, line, at := Read(text)
	if e != api.OK || line != 0 || at != 0 || !sameOrders(list, want) {
		t.Errorf("K1: Read(%.80q): %v, %d at %d:%d, want %v", text, list, e, line, at, want)
	}
}

// shuns fails unless Read tells this violation.
func shuns(t *testing.T, text string, want api.Errno, wantLine, wantAt int) {
	t.Helper()
	list, e, line, at := Read(text)
	if e != want || line != wantLine || at != wantAt || list != nil {
		t.Errorf("K1: Read(%.80q): %d orders, %d at %d:%d, want %d at %d:%d", text, len(list), e, line, at, want, wantLine, wantAt)
	}
}

func TestReadEachCommand(t *testing.T) {
	seen := map[sign]int{}
	for line, o := range each() {
		seen[signOf(o)]++
		o.Line = 1
		reads(t, line, o)
		reads(t, " \t"+strings.ReplaceAll(line, " ", "\t \t")+"\t\r", o)
		o.Line = 3
		reads(t, "\n# "+line+"\n"+line+"\n", o)
	}
	if len(seen) != 32 || len(commands()) != 32 {
		t.Errorf("%d commands of %d were read", len(seen), len(commands()))
	}
}

func TestReadLines(t *testing.T) {
	sync := func(line int) api.Order {
		o := called(api.CallSync, api.Call{})
		o.Line = line
		return o
	}
	for _, text := range []string{"", "\n", "\n\n\n", " ", "\t", "\r", "\r\r", " \r\n\t\r\r\n", "#", "#sync", " # x\n\t#\n", "#\x00\xff\n#"} {
		reads(t, text)
	}
	reads(t, "sync", sync(1))
	reads(t, "sync\r\r\r", sync(1))
	reads(t, "sync\r\n\nsync \r\r\n\r\n\t sync", sync(1), sync(3), sync(5))
	reads(t, strings.Repeat("\n", 1000)+"sync\nsync", sync(1001), sync(1002))
	// A byte 13 elsewhere is a byte of a word.
	shuns(t, "sync\r \n", api.ErrCommand, 1, 1)
	shuns(t, "sync \r \r\n", api.ErrLine, 1, 6)
	shuns(t, "\rsync\n", api.ErrCommand, 1, 1)
	shuns(t, "list /\r \n", api.ErrWord, 1, 6)
	shuns(t, "close 1\r\t", api.ErrNumber, 1, 7)
	// Other bytes that look like blanks are none.
	for _, x := range []string{"\x00", "\v", "\f", "\u00a0", "\x85", "\u2028"} {
		shuns(t, "sync"+x, api.ErrCommand, 1, 1)
		shuns(t, "sync "+x, api.ErrLine, 1, 6)
	}
	// A # is a remark ahead of all words alone.
	shuns(t, "sync # now", api.ErrLine, 1, 6)
	shuns(t, "list #", api.ErrWord, 1, 6)
	shuns(t, "sync#", api.ErrCommand, 1, 1)
}

func TestReadViolations(t *testing.T) {
	for _, w := range []string{"Sync", "SYNC", "synch", "syn", "x", "-", "0", "%", "call", "chip12", "\xff"} {
		shuns(t, w, api.ErrCommand, 1, 1)
		shuns(t, "sync\n\n \t"+w+" 1 2", api.ErrCommand, 3, 3)
	}
	// Of each command: a word less, and a word more.
	for line := range each() {
		parts := strings.Split(line, " ")
		most := strings.HasPrefix(line, "chip") || strings.HasPrefix(line, "fault") && len(parts) == 4
		if !most {
			shuns(t, " "+line+"  1 2\n", api.ErrLine, 1, len(line)+4)
		}
		if len(parts) == 1 || strings.HasPrefix(line, "chip") && len(parts) > 4 || strings.HasPrefix(line, "fault") && len(parts) > 4 {
			continue
		}
		for n := 1; n < len(parts); n++ {
			less := strings.Join(parts[:n], "  ")
			shuns(t, "sync\n"+less+" \t\r\n?", api.ErrLine, 2, len(less)+1)
		}
	}
	// The first violation counts: lines from the top, words from the left.
	shuns(t, "sync now\nwhat", api.ErrLine, 1, 6)
	shuns(t, "what\nsync now", api.ErrCommand, 1, 1)
	shuns(t, "open # z", api.ErrWord, 1, 6)
	shuns(t, "open /a z", api.ErrWord, 1, 9)
	shuns(t, "open /a r z z z", api.ErrNumber, 1, 11)
	shuns(t, "read 1 z", api.ErrNumber, 1, 8)
	shuns(t, "fault 1 fail 0 xff xff", api.ErrLine, 1, 20)
	shuns(t, "fault 1 fail 0 1 xff", api.ErrWord, 1, 16)
	shuns(t, "chip 8 4 1 0 1 x 3 y", api.ErrNumber, 1, 16)
}

func TestReadNumbers(t *testing.T) {
	for _, s := range []string{"0", "1", "-1", "10", "907", "2147483647", "-2147483647"} {
		var n int
		fmt.Sscan(s, &n)
		reads(t, "trace "+s, api.Order{Line: 1, Kind: api.OrderTrace, Nums: []int{n}})
	}
	wrong := []string{"00", "01", "-0", "-01", "+1", "--1", "-", "1-", "1.", "1e3", "0x1", "1_0", "a", "%", "x", "\u0661", "2147483648", "-2147483648", "9223372036854775808", strings.Repeat("9", 99)}
	for _, s := range wrong {
		for _, line := range []string{"trace ", "flip 1 2 ", "chip 8 4 1 2 ", "close ", "read 1 ", "read 1 2 ", "truncate 1 ", "mkdir / ", "fault ", "fault 1 fail "} {
			shuns(t, line+s, api.ErrNumber, 1, len(line)+1)
		}
	}
	for _, s := range []string{"-1", "256", "1000", "2147483647"} {
		shuns(t, "fault 1 cut "+s, api.ErrNumber, 1, 13)
	}
	for _, s := range []string{"-1", "-0", "00", "01", "+1", "18446744073709551616", "99999999999999999999", "1.", ""} {
		if s != "" {
			shuns(t, "touch / "+s, api.ErrNumber, 1, 9)
		}
	}
	for n := range 256 {
		reads(t, fmt.Sprint("fault 0 fail ", n), api.Order{Line: 1, Kind: api.OrderFault, Nums: []int{0, 1, n}})
	}
	reads(t, "touch / 9223372036854775808", api.Order{Line: 1, Kind: api.OrderCall, Call: api.Call{Op: api.CallTouch, Path: "/", Stamp: 1 << 63}})
	for _, s := range []string{"Fail", "cuts", "1", "2", "f", "-", "x"} {
		shuns(t, "fault 1 "+s+" 0", api.ErrWord, 1, 9)
	}
}

// quoted writes a path as the document says it.
func quoted(path string) string {
	if path == "" {
		return "%"
	}
	word := ""
	for _, x := range []byte(path) {
		if x > 32 && x < 127 && x != 37 && x != 35 {
			word += string(rune(x))
		} else {
			word += fmt.Sprintf("%%%02x", x)
		}
	}
	return word
}

func TestReadPaths(t *testing.T) {
	for x := range 256 {
		for _, path := range []string{string([]byte{byte(x)}), "/a" + string([]byte{byte(x)}) + "b"} {
			o := api.Order{Line: 1, Kind: api.OrderStore, Call: api.Call{Path: path}}
			reads(t, "store "+quoted(path), o)
			o = api.Order{Line: 1, Kind: api.OrderCall, Call: api.Call{Op: api.CallRename, Path: "a", To: path}}
			reads(t, "rename a "+quoted(path), o)
		}
		// There is one way to write a byte.
		plain := x > 32 && x < 127 && x != 37 && x != 35
		if hex := fmt.Sprintf("store a%%%02xb", x); plain {
			shuns(t, hex, api.ErrWord, 1, 7)
		} else if x != 32 && x != 9 && x != 10 {
			shuns(t, "store a"+string([]byte{byte(x)})+"b", api.ErrWord, 1, 7)
		}
	}
	for _, s := range []string{"%%", "%2", "a%", "a%0", "%0g", "%g0", "%FF", "%fF", "%Ff", "%%00", "%00%", "%-1", "%+1", "%0x", "#", "a#", "\x7f", "\u00e4"} {
		shuns(t, "store "+s, api.ErrWord, 1, 7)
		shuns(t, "link "+s+" b", api.ErrWord, 1, 6)
		shuns(t, "link b "+s, api.ErrWord, 1, 8)
		shuns(t, "take "+s+" x", api.ErrWord, 1, 6)
	}
	long := "/" + strings.Repeat("a\x00", 5000) // what a path may be is not asked here
	reads(t, "store "+quoted(long), api.Order{Line: 1, Kind: api.OrderStore, Call: api.Call{Path: long}})
}

func TestReadFlags(t *testing.T) {
	for n := range 32 {
		word := ""
		for i, letter := range []string{"r", "w", "c", "n", "e"} {
			if n>>i&1 == 1 {
				word += letter
			}
		}
		if n == 0 {
			word = "-"
		}
		o := called(api.CallOpen, api.Call{Path: "a", Flags: n, Mode: 7})
		o.Line = 1
		reads(t, "open a "+word+" 7", o)
	}
	for _, s := range []string{"wr", "rr", "er", "x", "r-", "-r", "--", "R", "rwcnee", "rwcnex", "1", "0", "rcw", "%"} {
		shuns(t, "open a "+s+" 7", api.ErrWord, 1, 8)
	}
}

func TestReadData(t *testing.T) {
	write := func(b ...byte) api.Order {
		o := called(api.CallWrite, api.Call{Handle: 1, Data: b})
		o.Line = 1
		return o
	}
	reads(t, "write 1 0 x", write())
	reads(t, "write 1 0 x00ff7a", write(0, 255, 0x7a))
	reads(t, "write 1 0 p0:0", write())
	reads(t, "write 1 0 p0:255", write())
	reads(t, "write 1 0 p1:255", write(255))
	for _, line := range []string{"fault 1 cut 0 x", "fault 1 cut 0 p0:7"} {
		list, _, _, _ := Read(line)
		if want, _, _, _ := Read("fault 1 cut 0"); !reflect.DeepEqual(list, want) {
			t.Errorf("K1: %q says something of a mask: %v", line, list)
		}
	}
	reads(t, "write 1 0 p4:254", write(254, 255, 0, 1))
	great := make([]byte, 65536)
	for i := range great {
		great[i] = byte(7 + i)
	}
	reads(t, "write 1 0 p65536:7", write(great...))
	reads(t, "write 1 0 x"+fmt.Sprintf("%x", great)+"00", write(append(great, 0)...))
	for _, s := range []string{"X", "x0", "xAB", "xg0", "x0g", "x000", "x-1", "0", "00", "p", "p1", "p:1", "p1:", "p:", "p1:1:1", "p65537:0", "p1:256", "p01:0", "p1:01", "p-1:0", "p-0:0", "p1:-1", "p1:-0", "p+1:0", "p1:+0", "P1:0", "p1,0", "p99999999999999999999:0", "y", "%", "-"} {
		shuns(t, "write 1 0 "+s, api.ErrWord, 1, 11)
		shuns(t, "load "+s, api.ErrWord, 1, 6)
		shuns(t, "take / "+s, api.ErrWord, 1, 8)
		shuns(t, "fault 1 cut 0 "+s, api.ErrWord, 1, 15)
	}
}

func TestReadLong(t *testing.T) {
	most := "sync" + strings.Repeat(" ", api.MaxText-8) + "sync"
	shuns(t, most, api.ErrLine, 1, api.MaxText-3)
	shuns(t, most+"\n", api.ErrLong, 0, 0)
	shuns(t, "?\n"+most, api.ErrLong, 0, 0)
	list, e, _, _ := Read(strings.Repeat("\n", api.MaxText))
	if e != api.OK || len(list) != 0 {
		t.Errorf("K1: lines that say nothing: %d", e)
	}
	list, e, _, _ = Read(strings.Repeat("sync\n", api.MaxText/5))
	if e != api.OK || len(list) != api.MaxText/5 || list[len(list)-1].Line != api.MaxText/5 {
		t.Errorf("K1: %d orders, %d", len(list), e)
	}
}

// R4: each list of an answer is its own.
func TestReadAnswersNewMemory(t *testing.T) {
	text := strings.Repeat("chip 1 2 3 4 5\nfault 1 cut 2 p9:3\nwrite 1 2 p9:3\ntake / p9:3\nload p9:3\n", 3)
	list, _, _, _ := Read(text)
	again, _, _, _ := Read(text)
	for i := range list {
		spoil(list[i].Nums)
		spoil(list[i].Data)
		spoil(list[i].Call.Data)
		if !sameOrders(list[i+1:], again[i+1:]) {
			t.Fatalf("R4: writing into the order %d changes those behind it", i)
		}
	}
	if list, _, _, _ = Read(text); !sameOrders(list, again) {
		t.Error("R4: writing into an answer changes the next one")
	}
}

// spoil writes over a list and its spare room.
func spoil[T int | byte](list []T) {
	for i := range list[:cap(list)] {
		list[:cap(list)][i] = 99
	}
}
