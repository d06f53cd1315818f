package desk

import (
	"fmt"
	"math"
	"strconv"
	"strings"
	"testing"

	"shale/api"
	"shale/image"
	"shale/judge"
)

// session is a desk that is told line by line, and keeps what it was told.
type session struct {
	*desk
	t    *testing.T
	said strings.Builder
}

func newSession(t *testing.T, lines ...string) *session {
	s := &session{desk: &desk{builder: builder{room: math.MaxInt}, rows: bySign(commands())}, t: t}
	for _, line := range lines {
		s.says(line)
	}
	return s
}

// begun is a session with an empty file system on a chip, mounted, the faults laid by ahead.
func begun(t *testing.T, g api.Geometry, faults ...string) *session {
	return newSession(t, append(faults, fmt.Sprintf("chip %d %d %d", g.Blocks, g.Pages, g.Sectors), "format", "mount")...)
}

func small() api.Geometry { return api.Geometry{Blocks: 12, Pages: 4, Sectors: 1} }

// says tells what a line is answered.
func (s *session) says(line string) string {
	s.t.Helper()
	s.said.WriteString(line + "\n")
	ahead := s.kept.Len()
	for o, v := range orders(line) {
		if v.e != api.OK {
			s.t.Fatalf("%q: %d at the byte %d", line, v.e, v.at)
		}
		s.do(o)
	}
	return s.kept.String()[ahead:]
}

// wants fails unless lines are answered so: each behind the other, all lines of an answer in one text.
func (s *session) wants(pairs ...string) {
	s.t.Helper()
	for i := 0; i < len(pairs); i += 2 {
		if got := s.says(pairs[i]); got != pairs[i+1]+"\n" {
			s.t.Errorf("%.60q: %.300q, want %.300q", pairs[i], got, pairs[i+1])
		}
	}
}

// same fails unless Run of all that was told answers all that was answered.
func (s *session) same() {
	s.t.Helper()
	if got := Run(s.said.String()); got != s.kept.String() {
		s.t.Errorf("K3: Run tells\n%.2000s, line by line it is\n%.2000s", got, s.kept.String())
	}
}

// cutNext lets the power go by a command that is none of the desk's own.
func (s *session) cutNext() {
	s.t.Helper()
	for !s.chip.Dark() {
		s.chip.Mark(0)
	}
}

// commandsOf reads the lines of a trace.
func commandsOf(t *testing.T, answer string) []api.Command {
	t.Helper()
	names := map[string]api.Errno{"ok": api.OK, "failed": api.ErrFailed, "off": api.ErrOff, "rule": api.ErrRule, "place": api.ErrPlace}
	kinds := map[string]int{"program": api.CmdProgram, "erase": api.CmdErase, "mark": api.CmdMark}
	var list []api.Command
	for line := range strings.Lines(answer) {
		words := strings.Fields(line)
		kind := kinds[words[0]]
		status, known := names[words[len(words)-1]]
		if words[0] == "trace" && len(words) == 2 {
			continue
		}
		if !known || kind == 0 || kind == api.CmdProgram && len(words) != 4 || kind != api.CmdProgram && len(words) != 3 {
			t.Fatalf("a line of a trace: %q", line)
		}
		c := api.Command{Kind: kind, Block: numberOf(t, words[1]), Status: status}
		if kind == api.CmdProgram {
			c.Page = numberOf(t, words[2])
		}
		list = append(list, c)
	}
	return list
}

func numberOf(t *testing.T, word string) int {
	t.Helper()
	n, err := strconv.Atoi(word)
	if err != nil {
		t.Fatal(err)
	}
	return n
}

// keepsRules fails unless the whole trace, as it is told, keeps the chip's rules (P2); what a Mark has done that failed or was cut, no judge can tell.
func (s *session) keepsRules() {
	s.t.Helper()
	list := commandsOf(s.t, s.says("trace 2147483647"))
	for _, c := range list {
		if c.Kind == api.CmdMark && c.Status != api.OK {
			return
		}
	}
	g := s.chip.Geometry()
	if n, e := judge.Check(g, make([]bool, g.Blocks), true, list); n != -1 || e != api.OK {
		s.t.Fatalf("P2: the command %d breaks the rules", n)
	}
}

// dumped tells the image that a dump has told.
func (s *session) dumped() api.Image {
	s.t.Helper()
	b, is := readData(strings.TrimSuffix(strings.TrimPrefix(s.says("dump"), "dump "), "\n"))
	m, e := image.Read(b)
	if !is || e != api.OK {
		s.t.Fatalf("dump: %v, %d", is, e)
	}
	return m
}
