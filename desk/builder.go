package desk

import (
	"slices"
	"strconv"
	"strings"

	"shale/words"
)

const (
	blank    = " "
	lineEnd  = "\n"
	hexBegin = "x"
	stretch  = 4096 // bytes that are written in digits at once, so that great data takes no second text
)

// builder writes a text, word by word. What does not fit its room is counted, and not kept.
type builder struct {
	kept  strings.Builder
	room  int
	size  int
	begun bool // the line has a word
}

func (b *builder) write(s string) {
	b.size += len(s)
	if !b.overfull() {
		b.kept.WriteString(s)
	}
}

func (b *builder) overfull() bool { return b.size > b.room }

func (b *builder) word(s string) {
	if b.begun {
		b.write(blank)
	}
	b.begun = true
	b.write(s)
}

func (b *builder) data(list []byte) {
	b.word(hexBegin)
	if digits := 2 * len(list); digits <= b.room-b.size {
		b.kept.Grow(digits) // else great data would be copied again and again as the text grows
	}
	for part := range slices.Chunk(list, stretch) {
		b.write(words.Hex(part))
	}
}

func (b *builder) end() {
	b.begun = false
	b.write(lineEnd)
}

func (b *builder) line(words ...string) {
	for _, s := range words {
		b.word(s)
	}
	b.end()
}

func number(n int) string { return strconv.Itoa(n) }

func stamp(n uint64) string { return strconv.FormatUint(n, 10) }
