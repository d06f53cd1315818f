package desk

import (
	"math"
	"strings"

	"shale/api"
	"shale/words"
)

const (
	mostPattern  = 65536
	escape       = "%"
	patternBegin = "p"
	patternMid   = ":"
)

// pathPart is a path of a call.
type pathPart struct{ field func(*api.Order) *string }

func (p pathPart) read(word string, o *api.Order) api.Errno {
	path, is := readPath(word)
	if !is {
		return api.ErrWord
	}
	*p.field(o) = path
	return api.OK
}

func (p pathPart) show(o *api.Order, to *builder) bool {
	to.word(shownPath(taken(p.field(o))))
	return true
}

// isPlain tells whether a byte of a path is written as itself.
func isPlain(x byte) bool { return x >= 33 && x <= 126 && x != '%' && x != '#' }

func readPath(word string) (string, bool) {
	if word == escape {
		return "", true
	}
	path := make([]byte, 0, len(word))
	for word != "" {
		x, n := word[0], 1
		if !isPlain(x) {
			b, e := words.Unhex(word[1:min(3, len(word))])
			if word[:1] != escape || e != api.OK || len(b) != 1 || isPlain(b[0]) {
				return "", false
			}
			x, n = b[0], 3
		}
		path = append(path, x)
		word = word[n:]
	}
	return string(path), true
}

func shownPath(path string) string {
	if path == "" {
		return escape
	}
	var word strings.Builder
	for i := range len(path) {
		if x := path[i]; isPlain(x) {
			word.WriteByte(x)
		} else {
			word.WriteString(escape + words.Hex([]byte{x}))
		}
	}
	return word.String()
}

// dataPart is bytes of an order.
type dataPart struct{ field func(*api.Order) *[]byte }

func (p dataPart) read(word string, o *api.Order) api.Errno {
	b, is := readData(word)
	if !is {
		return api.ErrWord
	}
	if len(b) > 0 { // else it is as if nothing were said
		*p.field(o) = b
	}
	return api.OK
}

func (p dataPart) show(o *api.Order, to *builder) bool {
	to.data(taken(p.field(o)))
	return true
}

func readData(word string) ([]byte, bool) {
	if digits, is := strings.CutPrefix(word, hexBegin); is {
		b, e := words.Unhex(digits)
		return b, e == api.OK
	}
	if pattern, is := strings.CutPrefix(word, patternBegin); is {
		return readPattern(pattern)
	}
	return nil, false
}

func readPattern(pattern string) ([]byte, bool) {
	many, first, is := strings.Cut(pattern, patternMid)
	n, isMany := readNumber(many, 0, mostPattern)
	s, isFirst := readNumber(first, 0, math.MaxUint8)
	if !is || !isMany || !isFirst {
		return nil, false
	}
	b := make([]byte, n)
	for i := range b {
		b[i] = byte(s + i)
	}
	return b, true
}

// maskPart is bytes that are left out where there are none.
type maskPart struct{ dataPart }

func (p maskPart) show(o *api.Order, to *builder) bool {
	return len(*p.field(o)) == 0 || p.dataPart.show(o, to)
}
