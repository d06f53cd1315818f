package desk

import (
	"fmt"
	"go/ast"
	"go/parser"
	"go/token"
	"slices"
	"strings"
	"testing"

	"shale/api"
	"shale/audit"
	"shale/chip"
	"shale/image"
	"shale/words"
)

// K4: the names are api's, in small letters, without Err.
func TestK4Names(t *testing.T) {
	const list = "ok short width digits sector two rail length shape place page rule failed off flip image fault tags field node name target key object record block space broken halted none save big range path long missing exists notdir isdir used handle mode loop into root flags many type closed parcel piece sum audit magic version tail command word line number state"
	file, err := parser.ParseFile(token.NewFileSet(), "../api/api.go", nil, 0)
	if err != nil {
		t.Fatal(err)
	}
	var names []string
	ast.Inspect(file, func(n ast.Node) bool {
		s, is := n.(*ast.ValueSpec)
		if !is || s.Type == nil || s.Type.(*ast.Ident).Name != "Errno" {
			return true
		}
		name := strings.ToLower(strings.TrimPrefix(s.Names[0].Name, "Err"))
		e := api.Errno(numberOf(t, s.Values[0].(*ast.BasicLit).Value))
		if got := nameOf(e); got != name {
			t.Errorf("K4: %d is named %q, want %q", e, got, name)
		}
		names = append(names, name)
		return true
	})
	if strings.Join(names, " ") != list {
		t.Errorf("K4: the names %v", names)
	}
}

// stateless are lines with what they answer where there is no chip, where nothing is mounted on one, and where something is.
func stateless() map[string][3]string {
	const no = "error state"
	return map[string][3]string{
		"fault 5 fail 0": {"ok", "ok", "ok"},
		"chip 12 4 1":    {"ok", "ok", "ok"},
		"chip 7 4 1":     {"error shape", "error shape", "error shape"},
		"load x":         {"error magic", "error magic", "error magic"},
		"flip 9 9 9":     {no, "error place", "error place"},
		"trace -1":       {no, "error number", "error number"},
		"trace 0":        {no, "trace 2", "trace 2"},
		"audit":          {no, "floor 1\ncounted 0\nlive 0\nused 0\nbad 0\nsaved no", "floor 1\ncounted 0\nlive 0\nused 0\nbad 0\nsaved no"},
		"power":          {no, "ok", "ok"},
		"format":         {no, "ok", no},
		"mount":          {no, "ok", no},
		"unmount":        {no, no, "ok"},
		"tree":           {no, no, "leaf / dir 493 0"},
		"store /":        {no, no, "data x5052434c01ed010000000000000000ff940ad6ad"},
		"take / x":       {no, no, "error parcel 0"},
		"open /a r 0":    {no, no, "error missing"},
		"close 1":        {no, no, "error handle"},
		"read 1 0 0":     {no, no, "error handle"},
		"write 1 0 x":    {no, no, "error handle 0"},
		"truncate 1 0":   {no, no, "error handle"},
		"mkdir /a 4096":  {no, no, "error node"},
		"rmdir /a":       {no, no, "error missing"},
		"unlink /":       {no, no, "error path"},
		"rename /a /b":   {no, no, "error missing"},
		"link /a %":      {no, no, "error target"},
		"target /":       {no, no, "error type"},
		"list /":         {no, no, "list 0"},
		"stat /":         {no, no, "stat 1 dir 0 493 0"},
		"look /":         {no, no, "stat 1 dir 0 493 0"},
		"chmod / 0":      {no, no, "error root"},
		"touch / 0":      {no, no, "error root"},
		"sync":           {no, no, "ok"},
		"usage":          {no, no, "usage 12 0 15"},
		"stat relative":  {no, no, "error path"},
	}
}

// K3: what each order answers in each state.
func TestStates(t *testing.T) {
	seen := map[sign]int{}
	for line, want := range stateless() {
		list, _, _, _ := Read(line)
		seen[signOf(list[0])]++
		for i, ahead := range [][]string{nil, {"chip 12 4 1", "format"}, {"chip 12 4 1", "format", "mount"}} {
			s := newSession(t, ahead...)
			s.wants(line, want[i])
			s.same()
		}
	}
	for _, ahead := range [][]string{nil, {"chip 12 4 1", "format"}, {"chip 12 4 1", "format", "mount"}} {
		answer := newSession(t, ahead...).says("dump")
		if len(ahead) == 0 && answer != "error state\n" || len(ahead) > 0 && !strings.HasPrefix(answer, "dump x5348414c01") {
			t.Errorf("K3: dump: %q", answer)
		}
	}
	if len(seen) != 31 { // and the dump
		t.Errorf("%d orders were asked", len(seen))
	}
}

// K3: which orders end what is mounted, and which leave it.
func TestWhatEndsAMount(t *testing.T) {
	chipRow := strings.TrimPrefix(strings.Split(Run("chip 9 4 1\ndump"), "\n")[1], "dump ")
	for line, ends := range map[string]bool{
		"chip 9 4 1": true, "chip 9 4 1 9": false, "chip 9 4 9": false, "load x": false, "load " + chipRow: true, "load " + chipRow + "00": false,
		"power": true, "unmount": true, "sync": false, "mount": false, "format": false, "flip 0 0 0": false, "audit": false, "dump": false, "tree": false, "fault 1 cut 0": false, "trace 1": false, "store /": false, "take / x": false,
	} {
		s := begun(t, small())
		s.says(line)
		want := "stat 1 dir 0 493 0"
		if ends {
			want = "error state"
		}
		s.wants("stat /", want)
		g := s.chip.Geometry()
		if nine := strings.HasPrefix(line, "chip") || strings.HasPrefix(line, "load"); (g.Blocks == 9) != (nine && ends) {
			t.Errorf("K3: behind %.20q the chip is %v", line, g)
		}
		s.same()
	}
}

// K3: behind a power the handles are gone and the tree is there; a chip that is still dark is on again.
func TestPower(t *testing.T) {
	s := begun(t, small())
	s.wants("open /f rwc 1", "handle 1", "write 1 0 x6162", "wrote 2", "power", "ok", "read 1 0 9", "error state", "mount", "ok", "read 1 0 9", "error handle", "tree", "leaf / dir 493 0\nleaf /f file 1 0 x6162", "power", "ok", "power", "ok", "mount", "ok", "unmount", "ok", "power", "ok", "mount", "ok")
	s.same()
	s = begun(t, small(), "fault 2 cut 0")
	s.wants("mkdir /d 0", "error off", "mkdir /d 0", "error state", "mount", "error off", "format", "error off", "power", "ok", "mount", "ok", "mkdir /d 0", "ok")
	s.same()
}

// If an order answers ErrOff, nothing is mounted behind it, whichever order it is.
func TestErrOffEndsAMount(t *testing.T) {
	for line, want := range map[string]string{
		"open /n wc 0": "error off", "write 1 0 p300:7": "error off 0", "write 1 600 x01": "error off 0", "read 1 0 9": "error off", "truncate 1 1": "error off", "mkdir /n 0": "error off",
		"rmdir /d": "error off", "unlink /l": "error off", "rename /l /n": "error off", "link /n a": "error off", "chmod /d 1": "error off", "touch /d 1": "error off",
		"sync": "error off", "unmount": "error off", "tree": "error off", "store /": "error off",
	} {
		s := begun(t, small(), "fault 12 cut 0")
		s.wants("mkdir /d 493", "ok", "link /l d", "ok", "open /f rwc 0", "handle 1", "write 1 0 p9:1", "wrote 9")
		s.cutNext()
		s.wants("stat /d", "stat 2 dir 0 493 0", line, want, "stat /d", "error state", "power", "ok", "mount", "ok", "stat /d", "stat 2 dir 0 493 0")
	}
	row := "x5052434c01ed0100000000000000000001a401000000000000000001610200000001020000006869ff2e4a59c7"
	s := begun(t, small(), "fault 4 cut 0")
	s.wants("mkdir /e 0", "error off", "take / "+row, "error state")
	// The command 6 is the file's chunk: its leaf is not laid out whole.
	s = begun(t, small(), "fault 6 cut 255")
	s.wants("mkdir /e 0", "ok", "take /e "+row, "error off 0", "tree", "error state", "power", "ok", "mount", "ok", "tree", "leaf / dir 493 0\nleaf /e dir 0 0\nleaf /e/a file 420 0 x6869")
	s.same()
	// A checkpoint that is cut, a format that is cut.
	s = begun(t, small(), "fault 3 cut 0")
	s.wants("unmount", "error off", "unmount", "error state", "mount", "error off", "power", "ok", "mount", "ok")
	s.same()
	s = newSession(t, "fault 1 cut 0", "chip 12 4 1")
	s.wants("format", "error off", "format", "error off", "audit", "floor 0\ncounted 0\nlive 0\nused 0\nbad 0\nsaved no", "trace 9", "trace 2\nerase 0 ok\nprogram 0 0 off", "flip 0 0 0", "error flip", "power", "ok", "mount", "error none", "format", "ok", "mount", "ok")
	s.same()
}

// K3: faults are laid by for the next chip, and are gone behind it, whatever it answers.
func TestFaultsWaitForTheNextChip(t *testing.T) {
	chipRow := strings.TrimPrefix(strings.Split(Run("chip 12 4 1\ndump"), "\n")[1], "dump ")
	for _, line := range []string{"chip 12 4 1", "load " + chipRow} {
		for _, between := range []string{"", "chip 7 4 1", "load x", "load " + chipRow, "chip 12 4 1 99"} {
			s := newSession(t, "fault 0 cut 0")
			want := "error off"
			if between != "" {
				s.says(between)
				want = "ok"
			}
			s.wants(line, "ok", "format", want)
			s.same()
		}
		// They come in the order in which they were laid by, and must rise.
		newSession(t, "fault 5 fail 0", "fault 3 fail 0").wants(line, "error fault", line, "ok", "format", "ok")
		newSession(t, "fault -1 fail 0").wants(line, "error fault", line, "ok")
		s := newSession(t, "fault 0 fail 0", "fault 2 fail 0")
		s.wants(line, "ok", "format", "ok", "trace 9", "trace 6\nerase 0 failed\nmark 0 ok\nerase 1 failed\nmark 1 ok\nerase 2 ok\nprogram 2 0 ok")
		s.same()
	}
	// The faults of a chip are its own: those that were laid by later are another's.
	s := begun(t, small())
	s.wants("fault 2 cut 0", "ok", "mkdir /d 0", "ok", "chip 12 4 1", "ok", "format", "ok", "mount", "ok", "mkdir /d 0", "error off")
	most := ""
	for n := range api.MaxEvents {
		most += fmt.Sprintf("fault %d fail 0\n", 1000+n)
	}
	if got := Run(most + "chip 12 4 1"); got != strings.Repeat("ok\n", api.MaxEvents+1) {
		t.Error("K3: as many faults as may be are refused")
	}
	for _, n := range []int{1, 2, 20000} { // and their masks, of a gigabyte together, are not kept
		more := strings.Repeat("fault 99999 cut 0 p65536:0\n", n)
		if got := Run(most + more + "chip 12 4 1\nchip 12 4 1"); !strings.HasSuffix(got, "ok\nerror fault\nok\n") {
			t.Errorf("K3: %d faults more than may be are taken", n)
		}
	}
}

// K3: a fault's mask and fill are handed on as they are said.
func TestFaultsMasks(t *testing.T) {
	for _, kind := range []int{api.FaultFail, api.FaultCut} {
		for _, mask := range [][]byte{nil, {0}, {255, 15, 1}, slices.Repeat([]byte{0xa5, 0x3c}, 200)} {
			for _, fill := range []byte{0, 255, 90} {
				word := []string{"", "fail", "cut"}[kind]
				s := newSession(t, fmt.Sprintf("fault 1 %s %d x%x", word, fill, mask), "chip 12 4 1", "format")
				c, _ := chip.New(small(), nil, []api.Fault{{At: 1, Kind: kind, Mask: mask, Fill: fill}})
				alike(t, s, c)
			}
		}
	}
}

// alike fails unless a session's chip came to what a chip has come to on which the same was done by hand: a format.
func alike(t *testing.T, s *session, c *chip.Chip) {
	t.Helper()
	d := &desk{chip: c, builder: builder{room: 1 << 20}}
	d.format(api.Order{})
	if list, e := image.Diff(s.dumped(), c.Image()); e != api.OK || len(list) > 0 {
		t.Errorf("K3: the chips differ at %v, %d", list, e)
	}
	if !slices.Equal(commandsOf(t, s.says("trace 99")), c.Trace()) {
		t.Error("K3: the traces differ")
	}
}

// K3: a chip has the factory's bad blocks that its line names.
func TestChipBadBlocks(t *testing.T) {
	s := newSession(t, "chip 12 4 1 0 3 3 11", "format", "mount")
	s.wants("usage", "usage 9 0 6", "trace 9", "trace 2\nerase 1 ok\nprogram 1 0 ok", "audit", "floor 1\ncounted 0\nlive 0\nused 0\nbad 3\nsaved no\nbad 0 0 0\nbad 3 0 0\nbad 11 0 0")
	s.same()
	newSession(t).wants("chip 12 4 1 12", "error place", "chip 12 4 1 -1", "error place", "chip 8 4 9", "error shape", "chip 4096 17 1", "error shape", "chip -1 0 0", "error shape", "format", "error state")
}

// K3: the answers of the calls of a disk.
func TestAnswers(t *testing.T) {
	s := begun(t, api.Geometry{Blocks: 30, Pages: 8, Sectors: 1})
	s.wants(
		"mkdir /d 493", "ok", "mkdir /d 493", "error exists",
		"open /d/%20%ff rwcn 420", "handle 1", "open /d/%20%ff r 0", "handle 2", "open /d w 0", "error isdir", "open /d - 0", "error flags",
		"write 1 0 p300:250", "wrote 300", "write 1 2147483647 x00", "error big 0", "write 1 -1 x00", "error range 0", "write 2 0 x00", "error mode 0", "write 3 0 x00", "error handle 0", "write 1 0 x", "wrote 0",
		"read 1 3 4", "data xfdfeff00", "read 1 300 1", "data x", "read 1 -1 1", "error range", "read 2 299 99", "data x25",
		"truncate 1 5", "ok", "truncate 2 5", "error mode", "truncate 1 -5", "error range", "read 1 0 99", "data xfafbfcfdfe",
		"link /d/l %20%ff", "ok", "link /d/m %25%23/..", "ok", "target /d/l", "target %20%ff", "target /d/m", "target %25%23/..", "target /d", "error type",
		"list /d", "list 3\nentry %20%ff 3 file\nentry l 4 link\nentry m 5 link", "list /", "list 1\nentry d 2 dir", "list /d/l", "error notdir", "list /x", "error missing",
		"stat /d/l", "stat 3 file 5 420 0", "look /d/l", "stat 4 link 0 511 0", "stat /d", "stat 2 dir 0 493 0", "stat /d/m", "error missing",
		"chmod /d/l 4095", "ok", "touch /d/l 18446744073709551615", "ok", "stat /d/l", "stat 3 file 5 4095 18446744073709551615", "chmod / 1", "error root", "chmod /d -1", "error node",
		"usage", "usage 30 5 161",
		"tree", "leaf / dir 493 0\nleaf /d dir 493 0\nleaf /d/%20%ff file 4095 18446744073709551615 xfafbfcfdfe\nleaf /d/l link 511 0 %20%ff\nleaf /d/m link 511 0 %25%23/..",
		"rename /d/%20%ff /%23", "ok", "rename /d /d/x", "error into", "rename /x /y", "error missing", "stat /%23", "stat 3 file 5 4095 18446744073709551615",
		"unlink /d", "error isdir", "rmdir /d", "error used", "unlink /d/l", "ok", "unlink /d/m", "ok", "rmdir /d", "ok", "rmdir /d", "error missing", "rmdir /%23", "error notdir",
		"unlink /%23", "ok", "read 2 0 99", "data xfafbfcfdfe", "close 1", "ok", "close 1", "error handle", "close 2", "ok",
		"sync", "ok", "usage", "usage 30 0 161", "link /m /m", "ok", "stat /m", "error loop", "stat %", "error path", "stat /"+strings.Repeat("n", 64), "error long", "unmount", "ok", "close 1", "error state",
	)
	s.same()
	s = begun(t, small())
	for h := 1; h <= api.MaxHandles; h++ {
		s.wants("open /f rwc 0", fmt.Sprint("handle ", h))
	}
	s.wants("open /f r 0", "error many", "close 7", "ok", "open /f r 0", "handle 7")
	s.same()
}

// K3: of a trace the last ones are told, oldest first; how many there are in all stands ahead of them.
func TestTrace(t *testing.T) {
	s := newSession(t, "fault 3 fail 0", "fault 8 cut 0", "chip 12 4 1 0")
	s.wants("trace 5", "trace 0", "format", "ok", "mount", "ok", "mkdir /a 0", "ok", "mkdir /b 0", "error off")
	all := []string{"erase 1 ok", "program 1 0 ok", "erase 2 ok", "program 2 0 failed", "mark 2 ok", "erase 3 ok", "program 3 0 ok", "program 3 1 ok", "program 3 2 off"}
	for n := range 12 {
		from := max(0, len(all)-n)
		s.wants(fmt.Sprint("trace ", n), strings.Join(append([]string{"trace 9"}, all[from:]...), "\n"))
	}
	s.wants("trace 2147483647", "trace 9\n"+strings.Join(all, "\n"), "trace -1", "error number", "trace -2147483647", "error number")
	s.same()
}

// K3: dump and load are one another's opposites; the chip that is loaded knows nothing of what was done to it.
func TestDumpAndLoad(t *testing.T) {
	s := begun(t, small())
	s.wants("open /f wc 0", "handle 1", "write 1 0 p700:9", "wrote 700", "flip 1 1 5", "ok", "unlink /f", "ok", "mkdir /d 0", "ok")
	row := strings.TrimSuffix(strings.TrimPrefix(s.says("dump"), "dump "), "\n")
	b, e := image.Pack(s.chip.Image())
	if row != "x"+words.Hex(b) || e != api.OK {
		t.Error("K3: dump is not the image's bytes")
	}
	r, _ := audit.Run(s.chip.Image())
	s.wants("audit", strings.TrimSuffix(audit.Show(r), "\n"), "load "+row, "ok", "tree", "error state", "trace 9", "trace 0", "dump", "dump "+row, "flip 1 2 7", "error flip", "mount", "ok", "tree", "leaf / dir 493 0\nleaf /d dir 0 0", "mkdir /e 0", "ok")
	s.keepsLoaded()
	s.same()
	for cut, want := range map[int]string{0: "error magic", 4: "error short", 9: "error short", len(b) - 1: "error short"} {
		s.wants("load x"+words.Hex(b[:cut]), want)
	}
	s.wants("load x"+words.Hex(b)+"00", "error tail", "load x5348414c02", "error version", "tree", "leaf / dir 493 0\nleaf /d dir 0 0\nleaf /e dir 0 0")
	b[len(b)-1] ^= 1
	s.wants("load x"+words.Hex(b), "error sum")
}

// keepsLoaded: the first command of a block is an erase: nothing is known of a chip that was loaded.
func (s *session) keepsLoaded() {
	s.t.Helper()
	list := commandsOf(s.t, s.says("trace 999"))
	if len(list) == 0 || list[0].Kind != api.CmdErase {
		s.t.Errorf("P2: the commands %v", list)
	}
}

// K3: parcels are stored and taken; how many leaves were laid out is told with an error too.
func TestStoreAndTake(t *testing.T) {
	s := begun(t, small())
	s.wants("mkdir /d 1", "ok", "mkdir /d/e 2", "ok", "link /d/l e", "ok", "open /d/f wc 3", "handle 1", "write 1 0 p20:1", "wrote 20", "touch /d/f 9", "ok", "close 1", "ok")
	row := strings.TrimSuffix(strings.TrimPrefix(s.says("store /d"), "data "), "\n")
	s.wants("store /d/", "data "+row, "store /x", "error missing", "store /d/f", "error notdir", "store d", "error path", "store /d/..", "error path", "store /d/l", "error notdir")
	s.wants("take /d "+row, "error exists 0", "mkdir /g 0", "ok", "take /g "+row, "took 3", "store /g/e", "data x5052434c0102000000000000000000ffcb36d9f6")
	s.wants("rmdir /g/e", "ok", "take /g "+row, "error exists 1", "take /x "+row, "error missing 0", "take x "+row, "error path 0", "take / x5052", "error parcel 0", "take / "+row+"00", "error parcel 0")
	s.wants("tree", "leaf / dir 493 0\nleaf /d dir 1 0\nleaf /d/e dir 2 0\nleaf /d/f file 3 9 x0102030405060708090a0b0c0d0e0f1011121314\nleaf /d/l link 511 0 e\nleaf /g dir 0 0\nleaf /g/e dir 2 0\nleaf /g/f file 3 9 x0102030405060708090a0b0c0d0e0f1011121314\nleaf /g/l link 511 0 e")
	s.same()
}

// K3: where Read refuses, the orders ahead of that line are done, and nothing else.
func TestRunOfWhatIsNoText(t *testing.T) {
	for text, want := range map[string]string{
		"":                                      "",
		"\n#\n":                                 "",
		"chip 12 4 1\nwhat\nformat":             "ok\nline 2 1 command\n",
		"chip 12 4 1\n\n\n format now\nformat":  "ok\nline 4 9 line\n",
		"chip 12 4 1\n\nformat\nstat":           "ok\nok\nline 4 5 line\n",
		"fault 0 cut 256":                       "line 1 13 number\n",
		"mount\nopen % z 0":                     "error state\nline 2 8 word\n",
		"sync\nsync\nclose 1 \t1\r\n":           "error state\nerror state\nline 3 10 line\n",
		strings.Repeat("\n", api.MaxText) + "?": "line 0 0 long\n",
		"chip 12 4 1\n" + strings.Repeat(" ", api.MaxText): "line 0 0 long\n",
	} {
		if got := Run(text); got != want {
			t.Errorf("K3: Run(%.60q): %.200q, want %q", text, got, want)
		}
	}
	// A short text may say much data: it is not all kept at once.
	line := "write 1 0 p65536:0\n"
	if got := Run(strings.Repeat(line, 10000)); got != strings.Repeat("error state\n", 10000) {
		t.Error("K3: much data")
	}
}
