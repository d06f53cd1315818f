package desk

import (
	"iter"
	"strings"

	"shale/api"
)

const (
	blanks  = " \t"
	returns = "\r" // a blank at a line's end alone
	remark  = "#"
)

// violation is what is wrong with a text, and where; OK: nothing is.
type violation struct {
	e        api.Errno
	line, at int
}

// orders goes through a text's orders, each read when it is asked for: data that is short in a text may be great, and all of it at once too great to be kept. Where something is wrong, that comes last.
func orders(text string) iter.Seq2[api.Order, violation] {
	return func(yield func(api.Order, violation) bool) {
		if len(text) > api.MaxText {
			yield(api.Order{}, violation{e: api.ErrLong})
			return
		}
		known := commands()
		n := 0
		for s := range strings.SplitSeq(text, lineEnd) {
			n++
			l := newLine(s)
			word, at := l.next()
			if word == "" || strings.HasPrefix(word, remark) {
				continue
			}
			o, v := order(known, word, at, l)
			o.Line = n
			if v.e != api.OK {
				v.line = n
				yield(api.Order{}, v)
				return
			}
			if !yield(o, v) {
				return
			}
		}
	}
}

// order tells the order that a line gives whose first word is this one; or what is wrong with it.
func order(known map[string]command, word string, at int, l *line) (api.Order, violation) {
	c, is := known[word]
	if !is {
		return api.Order{}, violation{e: api.ErrCommand, at: at}
	}
	o := api.Order{Kind: c.kind, Call: api.Call{Op: c.op}}
	if e, at := c.read(l, &o); e != api.OK {
		return api.Order{}, violation{e: e, at: at}
	}
	return o, violation{}
}

// line is one of a text, without the blanks at its end.
type line struct {
	text string
	at   int // what lies ahead of it was taken
}

func newLine(text string) *line {
	return &line{text: strings.TrimRight(strings.TrimRight(text, returns), blanks)}
}

// next takes the next word, and tells the byte at which it begins; "" and the byte behind the line's last one, if there is none.
func (l *line) next() (string, int) {
	left := strings.TrimLeft(l.text[l.at:], blanks)
	from := len(l.text) - len(left)
	l.at = len(l.text)
	if n := strings.IndexAny(left, blanks); n >= 0 {
		l.at = from + n
	}
	return l.text[from:l.at], from + 1
}
