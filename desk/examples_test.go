package desk

import (
	"strings"
	"testing"
)

// example is a text and its report.
type example struct{ name, text, report string }

// examples are those of DOC.md's 'Ten examples of the whole', and the chapter's.
func examples() []example {
	return []example{
		{"1: nothing, then an empty file system", `chip 12 4 1
mount
format
mount
usage
tree
trace 9
`, `ok
error none
ok
ok
usage 12 0 15
leaf / dir 493 0
trace 2
erase 0 ok
program 0 0 ok
`},
		{"2: a file, a directory, a link, a rename", `chip 12 4 1
format
mount
mkdir /d 493
open /d/a rwc 420
write 1 254 p4:65
read 1 250 9
rename /d/a /d/b%20c
link /l d/b%20c
stat /l
look /l
target /l
list /d
trace 5
`, `ok
ok
ok
ok
handle 1
wrote 4
data x0000000041424344
ok
ok
stat 3 file 258 420 0
stat 4 link 0 511 0
target d/b%20c
list 1
entry b%20c 3 file
trace 12
erase 2 ok
program 2 0 ok
program 2 1 ok
program 2 2 ok
program 2 3 ok
`},
		{"3: the power goes in the midst of a page", `fault 6 cut 15
chip 12 4 1
format
mount
open /f rwc 420
write 1 0 p600:1
usage
power
mount
stat /f
audit
`, `ok
ok
ok
ok
handle 1
error off 256
error state
ok
ok
stat 2 file 256 420 0
floor 1
counted 2
live 2
used 1
bad 0
saved no
broken 1 3 0
`},
		{"4: a page fails", `fault 4 fail 0
chip 12 4 1
format
mount
open /f rwc 420
write 1 0 p10:1
read 1 0 99
usage
trace 9
`, `ok
ok
ok
ok
handle 1
wrote 10
data x0102030405060708090a
usage 11 2 12
trace 10
program 0 0 ok
erase 1 ok
program 1 0 ok
program 1 1 failed
erase 2 ok
program 2 0 ok
mark 1 ok
program 2 1 ok
program 2 2 ok
`},
		{"5: full, and room again", `chip 12 4 1
format
mount
open /f rwc 420
write 1 0 p4000:0
stat /f
usage
mkdir /d 0
truncate 1 300
usage
mkdir /d 0
`, `ok
ok
ok
handle 1
error space 3584
stat 2 file 3584 420 0
usage 12 15 15
error space
ok
usage 12 3 15
ok
`},
		{"6: what is unlinked lives as long as it is open", `chip 12 4 1
format
mount
open /f rwc 420
write 1 0 x616263
unlink /f
read 1 0 9
stat /f
open /g wc 0
stat /g
power
mount
tree
`, `ok
ok
ok
handle 1
wrote 3
ok
data x616263
error missing
handle 2
stat 3 file 0 0 0
ok
ok
leaf / dir 493 0
leaf /g file 0 0 x
`},
		{"7: bits turn round", `chip 12 4 1
format
mount
open /f rwc 420
write 1 0 x616263
flip 1 2 0
flip 1 2 1
flip 1 2 2050
read 1 0 9
audit
`, `ok
ok
ok
handle 1
wrote 3
ok
error flip
ok
data x616263
floor 1
counted 2
live 2
used 1
bad 0
saved no
fixed 1 2 0
`},
		{"8: a checkpoint, and what is cut off", `chip 12 4 1
format
mount
open /f rwc 420
write 1 0 x61626364
truncate 1 2
unmount
audit
mount
open /f rw 0
truncate 1 4
read 1 0 9
audit
`, `ok
ok
ok
handle 1
wrote 4
ok
ok
floor 1
counted 4
live 2
used 2
bad 0
saved yes
ok
handle 1
ok
data x61620000
floor 1
counted 5
live 2
used 3
bad 0
saved no
`},
		{"9: a tree as a row of bytes", `chip 12 4 1
format
mount
mkdir /d 493
open /d/a wc 420
write 1 0 x6869
close 1
store /d
mkdir /e 0
take /e x5052434c01ed0100000000000000000001a401000000000000000001610200000001020000006869ff2e4a59c7
take /e x
tree
`, `ok
ok
ok
ok
handle 1
wrote 2
ok
data x5052434c01ed0100000000000000000001a401000000000000000001610200000001020000006869ff2e4a59c7
ok
took 1
error parcel 0
leaf / dir 493 0
leaf /d dir 493 0
leaf /d/a file 420 0 x6869
leaf /e dir 0 0
leaf /e/a file 420 0 x6869
`},
		{"10: texts with something wrong", `format
chip 7 4 1
chip 12 4 1
open /a rw 0
stat a b
`, `error state
error shape
ok
error state
line 5 8 line
`},
		{"chapter 21", `chip 12 4 1
format
mount
mkdir /d 493
open /d/a rwc 420
write 1 0 p3:65
read 1 1 9
rename /d/a /d/b%20c
list /d
close 1
unlink /x
trace 2
`, `ok
ok
ok
ok
handle 1
wrote 3
data x4243
ok
list 1
entry b%20c 3 file
ok
error missing
trace 10
program 2 0 ok
program 2 1 ok
`},
	}
}

func TestExamples(t *testing.T) {
	for _, x := range examples() {
		if got := Run(x.text); got != x.report {
			t.Errorf("%s: the report is\n%swant\n%s", x.name, got, x.report)
		}
	}
}

// Blanks and bytes 13 at a line's end say nothing, and the last line need not end.
func TestExamplesHoweverLinesEnd(t *testing.T) {
	for _, x := range examples() {
		for name, text := range otherLayouts(x.text) {
			if got := Run(text); got != x.report {
				t.Errorf("%s, %s: the report is\n%swant\n%s", x.name, name, got, x.report)
			}
		}
	}
}

// otherLayouts tells texts that say the same, at the same bytes of the same lines.
func otherLayouts(text string) map[string]string {
	ends := func(end string) string { return strings.ReplaceAll(text, "\n", end) }
	return map[string]string{
		"without the last byte 10":           strings.TrimSuffix(text, "\n"),
		"with bytes 13":                      ends("\r\n"),
		"with many bytes 13":                 ends("\r\r\r\n"),
		"with bytes 13 at the end":           strings.TrimSuffix(text, "\n") + "\r\r",
		"with blanks":                        ends(" \t \n"),
		"with blanks and bytes 13":           ends(" \t\r\n"),
		"with lines behind that say nothing": text + "\n\n# nothing\n \t#\r\n\t\r",
	}
}
