package audit

import (
	"math"
	"math/big"
	"math/rand"
	"regexp"
	"strconv"
	"strings"
	"testing"

	"shale/api"
)

const front = "floor 0\ncounted 0\nlive 0\nused 0\nbad 1\nsaved no\n"

func TestShow(t *testing.T) {
	r := api.Report{Floor: math.MaxUint64, Counted: math.MaxInt, Live: math.MinInt, Used: -1, Bad: 0, Saved: true}
	text := "floor 18446744073709551615\ncounted 9223372036854775807\nlive -9223372036854775808\nused -1\nbad 0\nsaved yes\n"
	words := []string{1: "broken", 2: "fixed", 3: "stale", 4: "refused", 5: "phantom", 6: "lost", 7: "twice", 8: "unlinked", 9: "bad"}
	for kind := -2; kind <= 12; kind++ {
		word := strconv.Itoa(kind)
		if kind >= 1 && kind <= 9 {
			word = words[kind]
		}
		r.Findings = append(r.Findings, api.Finding{Kind: kind, Place: at(kind*7, -kind), Object: kind * kind})
		text += word + " " + strconv.Itoa(kind*7) + " " + strconv.Itoa(-kind) + " " + strconv.Itoa(kind*kind) + "\n"
	}
	r.Findings = append(r.Findings, api.Finding{Kind: math.MinInt, Place: at(math.MaxInt, math.MinInt), Object: math.MaxInt}, api.Finding{Kind: math.MaxInt})
	text += "-9223372036854775808 9223372036854775807 -9223372036854775808 9223372036854775807\n9223372036854775807 0 0 0\n"
	if s := Show(r); s != text {
		t.Errorf("Show: %q, want %q", s, text)
	}
	if got, e, line := Read(text); e != api.OK || line != 0 || !sameReport(got, r) {
		t.Errorf("Read: %v, %d, %d", got, e, line)
	}
	if s := Show(api.Report{}); s != "floor 0\ncounted 0\nlive 0\nused 0\nbad 0\nsaved no\n" {
		t.Errorf("Show: %q", s)
	}
}

// The first line that Show could not write there.
func TestReadErrors(t *testing.T) {
	lines := strings.SplitAfter(front, "\n")[:6]
	other := func(n int, line string) string {
		list := append([]string{}, lines...)
		list[n-1] = line
		return strings.Join(list, "")
	}
	type text struct {
		text string
		line int
	}
	list := []text{
		{"", 1}, {"\n", 1}, {"floor", 1}, {"floor\n", 1}, {"floor 0", 1}, {"floor 0 \n", 1}, {"floor  0\n", 1}, {" floor 0\n", 1}, {"Floor 0\n", 1}, {"floor\t0\n", 1}, {"floor 0\r\n", 1}, {"counted 0\n", 1},
		{"floor 00\n", 1}, {"floor 01\n", 1}, {"floor -0\n", 1}, {"floor -1\n", 1}, {"floor +1\n", 1}, {"floor 18446744073709551616\n", 1}, {"floor 1_0\n", 1}, {"floor 0x1\n", 1}, {"floor \n", 1}, {"floor 1 1\n", 1}, {"floor ten\n", 1}, {"floor \xd9\xa1\n", 1},
		{"floor 0\n", 2}, {"floor 0\n\n", 2}, {front[:len(front)-1], 6}, {strings.TrimSuffix(front, "no\n"), 6},
		{other(2, "counted +0\n"), 2}, {other(2, "counted  0\n"), 2}, {other(2, "counted 9223372036854775808\n"), 2}, {other(2, "counted -9223372036854775809\n"), 2}, {other(2, "counted -0\n"), 2}, {other(2, "counted -01\n"), 2}, {other(2, "live 0\n"), 2}, {other(2, "count 0\n"), 2},
		{other(3, "live\n"), 3}, {other(3, "live 00\n"), 3}, {other(3, "used 0\n"), 3}, {other(4, "used x\n"), 4}, {other(4, "used 0 0\n"), 4}, {other(4, "bad 0\n"), 4}, {other(5, "bad -\n"), 5}, {other(5, "broken 0\n"), 5}, {other(5, ""), 5},
		{other(6, "saved\n"), 6}, {other(6, "saved Yes\n"), 6}, {other(6, "saved no \n"), 6}, {other(6, "saved maybe\n"), 6}, {other(6, "saved \n"), 6}, {other(6, "bad 3 0 0\n"), 6}, {other(6, "unsaved no\n"), 6}, {other(6, ""), 6},
		{front + "bad 3 0 0", 7}, {front + "\n", 7}, {front + "bad\n", 7}, {front + "bad 3 0\n", 7}, {front + "bad 3 0 0 0\n", 7}, {front + "bad 3 0 0 \n", 7}, {front + " bad 3 0 0\n", 7}, {front + "bad 3  0 0\n", 7}, {front + "bad 3 0 0\r\n", 7}, {front + "Bad 3 0 0\n", 7}, {front + "worse 3 0 0\n", 7}, {front + " 3 0 0\n", 7}, {front + "bad 03 0 0\n", 7}, {front + "bad 3 -0 0\n", 7}, {front + "bad 3 0 +1\n", 7}, {front + "bad 3 0 9223372036854775808\n", 7}, {front + "bad x 0 0\n", 7},
		{front + "1 3 0 0\n", 7}, {front + "5 3 0 0\n", 7}, {front + "9 3 0 0\n", 7}, {front + "00 3 0 0\n", 7}, {front + "-0 3 0 0\n", 7}, {front + "010 3 0 0\n", 7}, {front + "9223372036854775808 3 0 0\n", 7},
		{front + "bad 3 0 0\nbad 4 0 0", 8}, {front + "bad 3 0 0\n\n", 8}, {front + "bad 3 0 0\n\nbad 4 0 0\n", 8}, {front + "bad 3 0 0\nbad 4 0 0\nsaved no\n", 9}, {front + front, 7},
		{other(1, "floor x\n") + "9 9 9 9\n", 1}, {other(6, "x\n") + "y\n", 6},
	}
	for _, x := range list {
		if r, e, line := Read(x.text); e != api.ErrAudit || line != x.line || !sameReport(r, api.Report{}) || r.Findings != nil {
			t.Errorf("Read(%q): %v, %d, %d, want the line %d", x.text, r, e, line, x.line)
		}
		if _, line := slowRead(x.text); line != x.line {
			t.Errorf("the model reads %q: %d, want %d", x.text, line, x.line)
		}
	}
	for _, s := range []string{front, front + "bad 3 0 0\n", front + "10 3 0 0\n", front + "0 -3 0 0\n", front + "-1 3 0 0\n", other(1, "floor 18446744073709551615\n"), other(3, "live -9223372036854775808\n"), other(6, "saved yes\n"), front + "bad 3 0 0\nbroken 0 0 0\nbad 3 0 0\n"} {
		r, e, line := Read(s)
		if e != api.OK || line != 0 || Show(r) != s {
			t.Errorf("Read(%q): %v, %d, %d", s, r, e, line)
		}
	}
}

// slowRead tells whether a text is a report's, and else the first line that is none, by the lines' forms.
func slowRead(text string) (bool, int) {
	number := `(0|-?[1-9][0-9]*)`
	forms := []string{`floor (0|[1-9][0-9]*)`, `counted ` + number, `live ` + number, `used ` + number, `bad ` + number, `saved (?:yes|no)`}
	finding := `(?:broken|fixed|stale|refused|phantom|lost|twice|unlinked|bad|` + number + `) ` + number + ` ` + number + ` ` + number
	for n := 0; ; n++ {
		if n >= len(forms) && text == "" {
			return true, 0
		}
		form := finding
		if n < len(forms) {
			form = forms[n]
		}
		got := regexp.MustCompile(`\A` + form + `\n`).FindStringSubmatch(text)
		if got == nil {
			return false, n + 1
		}
		for _, digits := range got[1:] {
			if digits != "" && !fits(digits, n == 0) {
				return false, n + 1
			}
		}
		if n >= len(forms) && len(got[1]) == 1 && got[1] != "0" {
			return false, n + 1 // a kind that has a word
		}
		text = text[len(got[0]):]
	}
}

func fits(digits string, floor bool) bool {
	n, _ := new(big.Int).SetString(digits, 10)
	if floor {
		return n.IsUint64()
	}
	return n.IsInt64()
}

func someInt(r *rand.Rand) int {
	return someOf(r, 0, 1, -1, 7, 10, r.Intn(5000), -r.Intn(5000), math.MaxInt, math.MinInt, int(r.Uint64()))
}

func someReport(r *rand.Rand) api.Report {
	t := api.Report{Floor: someOf(r, 0, 1, r.Uint64(), math.MaxUint64), Counted: someInt(r), Live: someInt(r), Used: someInt(r), Bad: someInt(r), Saved: r.Intn(2) == 0}
	for range r.Intn(5) {
		t.Findings = append(t.Findings, api.Finding{Kind: someOf(r, someInt(r), r.Intn(12)-1), Place: at(someInt(r), someInt(r)), Object: someInt(r)})
	}
	return t
}

// P19.1, P10: there and back.
func TestP191ThereAndBack(t *testing.T) {
	r := rand.New(rand.NewSource(1))
	for range 5000 {
		want := someReport(r)
		text := Show(want)
		if got, e, line := Read(text); e != api.OK || line != 0 || !sameReport(got, want) {
			t.Fatalf("P19.1: Read(%q): %v, %d, %d, want %v", text, got, e, line, want)
		}
		if is, _ := slowRead(text); !is {
			t.Fatalf("the model does not take %q", text)
		}
	}
}

// spoil changes a text here and there.
func spoil(r *rand.Rand, text string) string {
	for range 1 + r.Intn(2) {
		n := r.Intn(len(text) + 1)
		switch r.Intn(5) {
		case 0:
			text = text[:n] + someOf(r, "0", "1", "9", "-", "+", " ", "\n", "bad", "bad 0 0 0\n", "x", "saved no\n", "\x00") + text[n:]
		case 1:
			text = text[:n] + text[min(len(text), n+1+r.Intn(3)):]
		case 2:
			text = text[:n]
		case 3:
			text = strings.Replace(text, someOf(r, "0", "1", " ", "\n", "bad", "yes"), someOf(r, "", "0", "10", "\n", "no", "9", "-1"), 1)
		case 4:
			text = strings.Replace(text, someOf(r, "broken ", "fixed ", "stale ", "bad ", "lost "), someOf(r, "1 ", "9 ", "10 ", "twice ", "00 "), 1)
		}
	}
	return text
}

// P19.2: what Read takes is what Show writes of it; what it refuses, and where, is what the model tells.
func TestP192OneText(t *testing.T) {
	r := rand.New(rand.NewSource(2))
	taken, refused := 0, 0
	for range 20000 {
		text := spoil(r, Show(someReport(r)))
		got, e, line := Read(text)
		is, wanted := slowRead(text)
		if (e == api.OK) != is || line != wanted || e != api.OK && e != api.ErrAudit {
			t.Fatalf("Read(%q): %d, %d, want %v, %d", text, e, line, is, wanted)
		}
		if is {
			taken++
		} else {
			refused++
		}
		if is && Show(got) != text {
			t.Fatalf("P19.2: Show of what Read tells of %q is %q", text, Show(got))
		}
	}
	if taken < 1000 || refused < 1000 {
		t.Errorf("%d were taken, %d refused", taken, refused)
	}
}

// R4: a report's findings are as they were, its spare room too.
func TestShowHandedIn(t *testing.T) {
	list := []api.Finding{{Kind: 1}, {Kind: 2}, {Kind: 3}}
	Show(api.Report{Findings: list[:1]})
	Sound(api.Report{Findings: list[:1]})
	for n, f := range list {
		if f != (api.Finding{Kind: n + 1}) {
			t.Errorf("R4: %v", list)
		}
	}
}
