package desk

import (
	"encoding/hex"
	"fmt"
	"math/big"
	"math/rand"
	"regexp"
	"slices"
	"strings"
	"testing"

	"shale/api"
)

// slowLines says, of each command, its order and which fields its words stand for, letter by letter: n a number of Nums, k a fault's kind, f its fill, d Data, p Path, t To, g Flags, m Mode, s Stamp, h Handle, a At, z Size, b a call's Data; what stands behind a * may follow any number of times, behind a ? once.
const slowLines = `chip 2 nnn*n
fault 3 nkf?d
flip 4 nnn
tree 5
audit 6
trace 7 n
dump 8
load 9 d
store 10 p
take 11 pd
open 1.1 pgm
close 1.2 h
read 1.3 haz
write 1.4 hab
truncate 1.5 hz
mkdir 1.6 pm
rmdir 1.7 p
unlink 1.8 p
rename 1.9 pt
link 1.10 pt
target 1.11 p
list 1.12 p
stat 1.13 p
look 1.14 p
chmod 1.15 pm
touch 1.16 ps
sync 1.17
usage 1.18
unmount 1.19
mount 1.20
format 1.21
power 1.22`

var (
	slowNumber = regexp.MustCompile(`^(0|-?[1-9][0-9]*)$`)
	slowPath   = regexp.MustCompile(`^(%|([!"$&-~]|%(0[0-9a-f]|1[0-9a-f]|20|23|25|7f|[89a-f][0-9a-f]))+)$`)
	slowFlags  = regexp.MustCompile(`^(-|r?w?c?n?e?)$`)
	slowHex    = regexp.MustCompile(`^x(([0-9a-f][0-9a-f])*)$`)
	slowCount  = regexp.MustCompile(`^p(0|[1-9][0-9]*):(0|[1-9][0-9]*)$`)
	slowEscape = regexp.MustCompile(`%..`)
	slowWords  = regexp.MustCompile(`[^ \t]+`)
	slowEnd    = regexp.MustCompile(`\r*$`)
)

// slowNum tells a number within bounds.
func slowNum(word, low, high string) (*big.Int, bool) {
	n, l, h := new(big.Int), new(big.Int), new(big.Int)
	if !slowNumber.MatchString(word) {
		return n, false
	}
	n.SetString(word, 10)
	l.SetString(low, 10)
	h.SetString(high, 10)
	return n, n.Cmp(l) >= 0 && n.Cmp(h) <= 0
}

func slowBytes(word string) ([]byte, bool) {
	if m := slowHex.FindStringSubmatch(word); m != nil {
		b, _ := hex.DecodeString(m[1])
		return b, true
	}
	m := slowCount.FindStringSubmatch(word)
	if m == nil {
		return nil, false
	}
	n, isN := slowNum(m[1], "0", "65536")
	s, isS := slowNum(m[2], "0", "255")
	if !isN || !isS {
		return nil, false
	}
	var b []byte
	for i := range n.Int64() {
		b = append(b, byte((s.Int64()+i)%256))
	}
	return b, true
}

func slowText(word string) (string, bool) {
	if !slowPath.MatchString(word) {
		return "", false
	}
	if word == "%" {
		return "", true
	}
	return slowEscape.ReplaceAllStringFunc(word, func(s string) string {
		b, _ := hex.DecodeString(s[1:])
		return string(b)
	}), true
}

// slowField lays a word into the field of a letter.
func slowField(letter byte, word string, o *api.Order) api.Errno {
	ints := map[byte]*int{'m': &o.Call.Mode, 'h': &o.Call.Handle, 'a': &o.Call.At, 'z': &o.Call.Size}
	is := false
	switch letter {
	case 'k':
		n := slices.Index([]string{"", "fail", "cut"}, word)
		o.Nums = append(o.Nums, n)
		is = n > 0
	case 'p':
		o.Call.Path, is = slowText(word)
	case 't':
		o.Call.To, is = slowText(word)
	case 'd':
		o.Data, is = slowBytes(word)
	case 'b':
		o.Call.Data, is = slowBytes(word)
	case 'g':
		for i, x := range []string{"r", "w", "c", "n", "e"} {
			if strings.Contains(word, x) {
				o.Call.Flags += 1 << i
			}
		}
		is = slowFlags.MatchString(word)
	default:
		low, high := "-2147483647", "2147483647"
		if letter == 'f' {
			low, high = "0", "255"
		} else if letter == 's' {
			low, high = "0", "18446744073709551615"
		}
		n, is := slowNum(word, low, high)
		if !is {
			return api.ErrNumber
		}
		switch letter {
		case 'n', 'f':
			o.Nums = append(o.Nums, int(n.Int64()))
		case 's':
			o.Call.Stamp = n.Uint64()
		default:
			*ints[letter] = int(n.Int64())
		}
		return api.OK
	}
	if !is {
		return api.ErrWord
	}
	return api.OK
}

// slowLine reads a line; false: it says nothing.
func slowLine(line string) (o api.Order, e api.Errno, at int, is bool) {
	line = slowEnd.ReplaceAllString(line, "")
	places := slowWords.FindAllStringIndex(line, -1)
	if len(places) == 0 || line[places[0][0]] == '#' {
		return
	}
	word := func(i int) string { return line[places[i][0]:places[i][1]] }
	spec := ""
	for row := range strings.SplitSeq(slowLines, "\n") {
		var name string
		if fmt.Sscan(row, &name); name == word(0) {
			fmt.Sscan(strings.TrimPrefix(row, name), &spec)
			if before, after, call := strings.Cut(spec, "."); call {
				fmt.Sscan(before, &o.Kind)
				fmt.Sscan(after, &o.Call.Op)
			} else {
				fmt.Sscan(spec, &o.Kind)
			}
			_, spec, _ = strings.Cut(strings.TrimPrefix(row, name+" "), " ")
			break
		}
	}
	if o.Kind == 0 {
		return api.Order{}, api.ErrCommand, places[0][0] + 1, true
	}
	for i := 1; ; i++ {
		more := strings.IndexAny(spec, "*?") == 0
		if i == len(places) {
			if spec == "" || more {
				return o, api.OK, 0, true
			}
			return api.Order{}, api.ErrLine, places[i-1][1] + 1, true
		}
		if spec == "" {
			return api.Order{}, api.ErrLine, places[i][0] + 1, true
		}
		letter := spec[0]
		if more {
			letter = spec[1]
		}
		if e := slowField(letter, word(i), &o); e != api.OK {
			return api.Order{}, e, places[i][0] + 1, true
		}
		if spec[0] == '?' {
			spec = ""
		} else if spec[0] != '*' {
			spec = spec[1:]
		}
	}
}

// slowRead is the document's Read, as slow as it may be.
func slowRead(text string) ([]api.Order, api.Errno, int, int) {
	var list []api.Order
	for i, line := range strings.Split(text, "\n") {
		o, e, at, is := slowLine(line)
		if e != api.OK {
			return nil, e, i + 1, at
		}
		if o.Line = i + 1; is {
			list = append(list, o)
		}
	}
	return list, api.OK, 0, 0
}

func someOf[T any](r *rand.Rand, list ...T) T { return list[r.Intn(len(list))] }

// someWord picks a word; some are none of any kind.
func someWord(r *rand.Rand) string {
	switch r.Intn(6) {
	case 0:
		return someOf(r, "0", "1", "-1", "255", "256", "2147483647", "2147483648", "-2147483647", "-2147483648", "18446744073709551615", "18446744073709551616", "01", "-0", fmt.Sprint(r.Intn(99)), fmt.Sprint(-r.Int63()))
	case 1:
		return someOf(r, "%", "/", "/a", "/a%20b", "%41", "%2", "#", "a#", "%ff", "%FF", "/%25", quoted(string([]byte{byte(r.Intn(256)), byte(r.Intn(256))})), string([]byte{byte(r.Intn(256)), byte(r.Intn(256))}))
	case 2:
		return someOf(r, "-", "r", "w", "rw", "wr", "rwc", "rwcne", "rn", "e", "ee", "rx")
	case 3:
		return someOf(r, "x", "x00", "x0", "xAB", "xff00", "p0:0", "p3:255", "p65536:0", "p65537:0", "p1:256", "p01:1", "p1", fmt.Sprintf("p%d:%d", r.Intn(9), r.Intn(300)))
	case 4:
		return someOf(r, "fail", "cut", "Cut", "1", "2")
	}
	return someOf(r, "", " ", "\t", "\r", "a\rb", "x\r", "\x00", "sync")
}

// someLine picks a line; many of them are right.
func someLine(r *rand.Rand) string {
	var lines []string
	for line := range each() {
		lines = append(lines, line)
	}
	slices.Sort(lines)
	parts := strings.Split(someOf(r, lines...), " ")
	for r.Intn(3) == 0 {
		i := r.Intn(len(parts))
		switch r.Intn(4) {
		case 0:
			parts = slices.Insert(parts, i, someWord(r))
		case 1:
			parts = parts[:max(1, i)]
		default:
			parts[i] = someWord(r)
		}
	}
	return someOf(r, "", "", "", " ", "\t", "#") + strings.Join(parts, someOf(r, " ", " ", "\t", "  ")) + someOf(r, "", "", " ", "\t ", "\r", " \r\r", "\r ")
}

// K1, against the slow Read: texts with all that may be wrong, and bytes turned round in them.
func TestK1AgainstTheModel(t *testing.T) {
	t.Parallel()
	ends := map[api.Errno]int{}
	for seed := range int64(20000) {
		r := rand.New(rand.NewSource(seed))
		var lines []string
		for range 1 + r.Intn(6) {
			lines = append(lines, someLine(r))
		}
		text := []byte(strings.Join(lines, "\n"))
		for r.Intn(4) == 0 && len(text) > 0 {
			text[r.Intn(len(text))] = someOf(r, byte(r.Intn(256)), ' ', '\n', '\r', '\t', '0', '%', '#', '-')
		}
		list, e, line, at := Read(string(text))
		want, wantE, wantLine, wantAt := slowRead(string(text))
		if e != wantE || line != wantLine || at != wantAt || !sameOrders(list, want) {
			t.Fatalf("K1: Read(%q): %v, %d at %d:%d, want %v, %d at %d:%d", text, list, e, line, at, want, wantE, wantLine, wantAt)
		}
		ends[e]++
	}
	for _, e := range []api.Errno{api.OK, api.ErrCommand, api.ErrWord, api.ErrLine, api.ErrNumber} {
		if ends[e] < 500 {
			t.Errorf("%d texts answered %d", ends[e], e)
		}
	}
}
