package audit

import (
	"strconv"
	"strings"

	"shale/api"
)

const (
	blank   = " "
	lineEnd = "\n"
	yes     = "yes"
	no      = "no"
)

// The words that begin a report's lines.
const (
	wordFloor   = "floor"
	wordCounted = "counted"
	wordLive    = "live"
	wordUsed    = "used"
	wordBad     = "bad"
	wordSaved   = "saved"
)

// kindWords has, by its number, the word of each kind of finding that has one.
var kindWords = [...]string{
	api.FoundBroken:  "broken",
	api.FoundFixed:   "fixed",
	api.FoundStale:   "stale",
	api.FoundHeader:  "refused",
	api.FoundPhantom: "phantom",
	api.FoundLost:    "lost",
	api.FoundTwice:   "twice",
	api.FoundLink:    "unlinked",
	api.FoundBad:     "bad",
}

// Show writes a report.
func Show(r api.Report) string {
	var text strings.Builder
	line := func(things ...string) { text.WriteString(strings.Join(things, blank) + lineEnd) }
	line(wordFloor, strconv.FormatUint(r.Floor, 10))
	line(wordCounted, strconv.Itoa(r.Counted))
	line(wordLive, strconv.Itoa(r.Live))
	line(wordUsed, strconv.Itoa(r.Used))
	line(wordBad, strconv.Itoa(r.Bad))
	line(wordSaved, saidSo(r.Saved))
	for _, f := range r.Findings {
		line(kindShown(f.Kind), strconv.Itoa(f.Place.Block), strconv.Itoa(f.Place.Page), strconv.Itoa(f.Object))
	}
	return text.String()
}

func saidSo(so bool) string {
	if so {
		return yes
	}
	return no
}

func kindShown(kind int) string {
	if kind < api.FoundBroken || kind >= len(kindWords) {
		return strconv.Itoa(kind)
	}
	return kindWords[kind]
}

// Read reads it.
func Read(text string) (api.Report, api.Errno, int) {
	r := &reader{left: text}
	report, is := r.report()
	if !is {
		return api.Report{}, api.ErrAudit, r.line
	}
	return report, api.OK, 0
}

// reader takes a text line by line. Each of its calls tells whether the line is one that Show could write; what it reads is of use only then.
type reader struct {
	left string
	line int // the number of the one that was taken last
}

func (r *reader) report() (api.Report, bool) {
	var t api.Report
	is := r.floor(&t.Floor) && r.number(wordCounted, &t.Counted) && r.number(wordLive, &t.Live) &&
		r.number(wordUsed, &t.Used) && r.number(wordBad, &t.Bad) && r.saved(&t.Saved)
	for is && r.left != "" {
		var f api.Finding
		is = r.finding(&f)
		t.Findings = append(t.Findings, f)
	}
	return t, is
}

// things takes the next line, which has so many of them.
func (r *reader) things(many int) ([]string, bool) {
	r.line++
	line, left, ended := strings.Cut(r.left, lineEnd)
	r.left = left
	list := strings.Split(line, blank)
	return list, ended && len(list) == many
}

// behind tells what stands behind a word that begins a line of two things.
func (r *reader) behind(word string) (string, bool) {
	list, is := r.things(2)
	if !is || list[0] != word {
		return "", false
	}
	return list[1], true
}

func (r *reader) floor(to *uint64) bool {
	digits, is := r.behind(wordFloor)
	n, err := strconv.ParseUint(digits, 10, 64)
	*to = n
	return is && err == nil && strconv.FormatUint(n, 10) == digits
}

func (r *reader) number(word string, to *int) bool {
	digits, is := r.behind(word)
	return is && isNumber(digits, to)
}

// isNumber holds the digits against those that Show writes: the library takes more.
func isNumber(digits string, to *int) bool {
	n, err := strconv.Atoi(digits)
	*to = n
	return err == nil && strconv.Itoa(n) == digits
}

func (r *reader) saved(to *bool) bool {
	word, is := r.behind(wordSaved)
	*to = word == yes
	return is && (word == yes || word == no)
}

func (r *reader) finding(to *api.Finding) bool {
	list, is := r.things(4)
	return is && isKind(list[0], &to.Kind) && isNumber(list[1], &to.Place.Block) &&
		isNumber(list[2], &to.Place.Page) && isNumber(list[3], &to.Object)
}

// isKind: a kind that has a word is not told by its number.
func isKind(shown string, to *int) bool {
	for kind := api.FoundBroken; kind < len(kindWords); kind++ {
		if kindWords[kind] == shown {
			*to = kind
			return true
		}
	}
	return isNumber(shown, to) && kindShown(*to) == shown
}
