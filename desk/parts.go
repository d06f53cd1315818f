package desk

import (
	"math"
	"strconv"
	"strings"

	"shale/api"
)

const (
	mostNumber = math.MaxInt32
	noFlags    = "-"
	wordFail   = "fail"
	wordCut    = "cut"
)

// part is what a word says of an order. It is read into the order; and it is shown out of it, so that behind all parts of a command just that is left in the order which its line does not say.
type part interface {
	read(word string, o *api.Order) api.Errno
	show(o *api.Order, to *builder) bool // false: it cannot be said
}

func handleField(o *api.Order) *int  { return &o.Call.Handle }
func atField(o *api.Order) *int      { return &o.Call.At }
func sizeField(o *api.Order) *int    { return &o.Call.Size }
func modeField(o *api.Order) *int    { return &o.Call.Mode }
func pathField(o *api.Order) *string { return &o.Call.Path }
func toField(o *api.Order) *string   { return &o.Call.To }
func callData(o *api.Order) *[]byte  { return &o.Call.Data }
func orderData(o *api.Order) *[]byte { return &o.Data }

// taken tells what a field has, and leaves nothing in it.
func taken[T any](field *T) T {
	var none T
	v := *field
	*field = none
	return v
}

// readNumber holds the digits against those that are written: the library takes more.
func readNumber(word string, low, high int) (int, bool) {
	n, err := strconv.Atoi(word)
	if err != nil || number(n) != word || n < low || n > high {
		return 0, false
	}
	return n, true
}

// fieldPart is a number of a call.
type fieldPart struct{ field func(*api.Order) *int }

func (p fieldPart) read(word string, o *api.Order) api.Errno {
	n, is := readNumber(word, -mostNumber, mostNumber)
	if !is {
		return api.ErrNumber
	}
	*p.field(o) = n
	return api.OK
}

func (p fieldPart) show(o *api.Order, to *builder) bool {
	n := taken(p.field(o))
	to.word(number(n))
	return n >= -mostNumber && n <= mostNumber
}

// numPart is the next one of Nums.
type numPart struct{ low, high int }

func (p numPart) read(word string, o *api.Order) api.Errno {
	n, is := readNumber(word, p.low, p.high)
	if !is {
		return api.ErrNumber
	}
	o.Nums = append(o.Nums, n)
	return api.OK
}

func (p numPart) show(o *api.Order, to *builder) bool {
	n, is := takenNum(o)
	to.word(number(n))
	return is && n >= p.low && n <= p.high
}

func takenNum(o *api.Order) (int, bool) {
	if len(o.Nums) == 0 {
		return 0, false
	}
	n := o.Nums[0]
	o.Nums = o.Nums[1:]
	return n, true
}

// numsPart is all further ones of Nums, read one by one.
type numsPart struct{ numPart }

func (p numsPart) show(o *api.Order, to *builder) bool {
	for len(o.Nums) > 0 {
		if !p.numPart.show(o, to) {
			return false
		}
	}
	return true
}

// kindPart is a fault's kind, the next one of Nums.
type kindPart struct{}

func (kindPart) read(word string, o *api.Order) api.Errno {
	switch word {
	case wordFail:
		o.Nums = append(o.Nums, api.FaultFail)
	case wordCut:
		o.Nums = append(o.Nums, api.FaultCut)
	default:
		return api.ErrWord
	}
	return api.OK
}

func (kindPart) show(o *api.Order, to *builder) bool {
	n, is := takenNum(o)
	switch n {
	case api.FaultFail:
		to.word(wordFail)
	case api.FaultCut:
		to.word(wordCut)
	default:
		is = false
	}
	return is
}

// stampPart is a call's stamp.
type stampPart struct{}

func (stampPart) read(word string, o *api.Order) api.Errno {
	n, err := strconv.ParseUint(word, 10, 64)
	if err != nil || stamp(n) != word {
		return api.ErrNumber
	}
	o.Call.Stamp = n
	return api.OK
}

func (stampPart) show(o *api.Order, to *builder) bool {
	to.word(stamp(taken(&o.Call.Stamp)))
	return true
}

// opening is a flag and its letter.
type opening struct {
	letter string
	flag   int
}

// openings has the letters in the order in which they are written.
var openings = [...]opening{
	{"r", api.OpenRead},
	{"w", api.OpenWrite},
	{"c", api.OpenCreate},
	{"n", api.OpenNew},
	{"e", api.OpenEmpty},
}

// flagsPart is a call's flags.
type flagsPart struct{}

func (flagsPart) read(word string, o *api.Order) api.Errno {
	if word == noFlags {
		return api.OK
	}
	for _, x := range openings {
		if left, is := strings.CutPrefix(word, x.letter); is {
			word = left
			o.Call.Flags |= x.flag
		}
	}
	if word != "" {
		return api.ErrWord
	}
	return api.OK
}

// show leaves flags that have no letter in the order: they are not said.
func (flagsPart) show(o *api.Order, to *builder) bool {
	word := ""
	for _, x := range openings {
		if o.Call.Flags&x.flag != 0 {
			word += x.letter
			o.Call.Flags &^= x.flag
		}
	}
	if word == "" {
		word = noFlags
	}
	to.word(word)
	return true
}
