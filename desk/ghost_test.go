package desk

import (
	"fmt"
	"maps"
	"math/rand"
	"slices"
	"strings"

	"shale/api"
)

// ghost is a disk without a chip: what the chapters 15 and 17 say of each order, answered in the report's lines.
type ghost struct {
	c      int // bytes of a chunk
	limit  int
	things map[int]thing
	hands  map[int]hand
	allow  func(g *ghost, grows bool) bool // whether the next step is done
	sights []string                        // of the order that was done last: what a mount would show ahead of its first step, and behind each
	told   []int                           // and the bytes that were written by then
}

type thing struct {
	kind, up, mode      int
	stamp               uint64
	name, bytes, target string
	pages               map[int]int // the chunks that have a page; each stands for itself
}

type hand struct{ file, flags int }

func newGhost(g api.Geometry) *ghost {
	x := &ghost{c: 256 * g.Sectors, hands: map[int]hand{}}
	x.things = map[int]thing{1: {kind: api.TypeDir, up: 1, mode: 493}}
	x.limit, x.allow = (g.Blocks-api.Reserve)*(g.Pages-1), (*ghost).roomy
	return x
}

// roomy: a step that needs one page more is done as long as that is within the limit (P7).
func (g *ghost) roomy(grows bool) bool { return !grows || g.live()+1 <= g.limit }

// upTo: just so many steps more are done.
func (g *ghost) upTo(n int) *ghost {
	g.allow = func(*ghost, bool) bool { n--; return n >= 0 }
	return g
}

func (g *ghost) copied() *ghost {
	x := *g
	x.things, x.hands = maps.Clone(g.things), maps.Clone(g.hands)
	return &x
}

// mounted is what the next mount shows.
func (g *ghost) mounted() *ghost {
	x := g.copied()
	clear(x.hands)
	maps.DeleteFunc(x.things, func(_ int, o thing) bool { return o.up == 0 })
	return x
}

func (g *ghost) live() int {
	n := len(g.things) - 1
	for _, o := range g.things {
		n += len(o.pages)
	}
	return n
}

func (g *ghost) in(dir int) []int {
	list := slices.DeleteFunc(slices.Sorted(maps.Keys(g.things)), func(id int) bool { return id == 1 || g.things[id].up != dir })
	slices.SortFunc(list, func(a, b int) int { return strings.Compare(g.things[a].name, g.things[b].name) })
	return list
}

func (g *ghost) way(id int) string {
	if id == 1 {
		return ""
	}
	return g.way(g.things[id].up) + "/" + g.things[id].name
}

// below tells an object and all that lies below it.
func (g *ghost) below(id int) []int {
	list := []int{id}
	for _, x := range g.in(id) {
		list = append(list, g.below(x)...)
	}
	return list
}

// tree tells the lines of an object's leaf and all leaves below it.
func (g *ghost) tree(id int) string {
	o := g.things[id]
	text := fmt.Sprintf("leaf %s %s %d %d", quoted(max("/", g.way(id))), kindName(o.kind), o.mode, o.stamp)
	switch o.kind {
	case api.TypeFile:
		text += fmt.Sprintf(" x%x", o.bytes)
	case api.TypeLink:
		text += " " + quoted(o.target)
	}
	text += "\n"
	for _, x := range g.in(id) {
		text += g.tree(x)
	}
	return text
}

func kindName(kind int) string { return []string{"", "file", "dir", "link"}[kind] }

// sight is what a mount would show.
func (g *ghost) sight() string {
	m := g.mounted()
	return fmt.Sprint(m.tree(1), m.live())
}

// step makes a change, if it may be done.
func (g *ghost) step(grows bool, told int, change func()) bool {
	if !g.allow(g, grows) {
		return false
	}
	change()
	g.sights, g.told = append(g.sights, g.sight()), append(g.told, told)
	return true
}

func (g *ghost) put(id int, o thing) {
	o.pages = maps.Clone(o.pages)
	maps.DeleteFunc(o.pages, func(k, _ int) bool { return k*g.c >= len(o.bytes) })
	g.things[id] = o
}

// loosen takes an unlinked object away at which no handle is open.
func (g *ghost) loosen(id int) {
	for _, h := range g.hands {
		if h.file == id {
			return
		}
	}
	if g.things[id].up == 0 {
		delete(g.things, id)
	}
}

// parts tells a path's names, or an error's name.
func parts(path string) ([]string, string) {
	names := strings.FieldsFunc(path, func(x rune) bool { return x == '/' })
	names = slices.DeleteFunc(names, func(s string) bool { return s == "." })
	switch {
	case !strings.HasPrefix(path, "/") || strings.Contains(path, "\x00"):
		return nil, "path"
	case len(path) > 1023 || len(names) > 64 || slices.ContainsFunc(names, func(s string) bool { return len(s) > 63 }):
		return nil, "long"
	}
	return names, ""
}

func (g *ghost) find(dir int, name string) int {
	for _, id := range g.in(dir) {
		if g.things[id].name == name {
			return id
		}
	}
	return 0
}

// follow tells where names lead to from the root; the last one is followed, if it is a link, only where last is true.
func (g *ghost) follow(names []string, last bool) (int, string) {
	at, links := 1, 0
	for len(names) > 0 {
		name := names[0]
		names = names[1:]
		if g.things[at].kind != api.TypeDir {
			return 0, "notdir"
		}
		next := g.find(at, name)
		if name == ".." {
			next = g.things[at].up
		}
		if next == 0 {
			return 0, "missing"
		}
		target := g.things[next].target
		if target == "" || len(names) == 0 && !last {
			at = next
			continue
		}
		if links++; links > 8 {
			return 0, "loop"
		}
		ahead, e := parts("/" + target)
		if e != "" {
			return 0, e
		}
		if names = slices.Concat(ahead, names); len(names) > 64 {
			return 0, "long"
		}
		if target[0] == '/' {
			at = 1
		}
	}
	return at, ""
}

func (g *ghost) walk(path string, last bool) (int, string) {
	names, e := parts(path)
	if e != "" {
		return 0, e
	}
	return g.follow(names, last)
}

// spot is the place of a path: its directory, the last name, and what is there, or 0.
func (g *ghost) spot(path string) (int, string, int, string) {
	names, e := parts(path)
	if e != "" {
		return 0, "", 0, e
	}
	n := len(names) - 1
	if n < 0 || names[n] == ".." {
		return 0, "", 0, "path"
	}
	dir, e := g.follow(names[:n], true)
	if e == "" && g.things[dir].kind != api.TypeDir {
		e = "notdir"
	}
	if e != "" {
		return 0, "", 0, e
	}
	return dir, names[n], g.find(dir, names[n]), ""
}

func tooLong(way string) bool { return len(way) > 1023 || strings.Count(way, "/") > 64 }

func ends(e string) string {
	if e != "" {
		return "error " + e + "\n"
	}
	return "ok\n"
}

// answer does an order, and tells its lines. (Of usage it knows what is live alone.)
func (g *ghost) answer(o api.Order) string {
	g.sights, g.told = []string{g.sight()}, []int{0}
	c := o.Call
	if o.Kind == api.OrderTree {
		return g.tree(1)
	}
	switch c.Op {
	case api.CallOpen:
		return g.open(c)
	case api.CallClose, api.CallRead, api.CallWrite, api.CallTruncate:
		return g.byHandle(c)
	case api.CallMkdir:
		return ends(g.make(c.Path, thing{kind: api.TypeDir, mode: c.Mode}))
	case api.CallLink:
		return ends(g.make(c.Path, thing{kind: api.TypeLink, mode: 511, target: c.To}))
	case api.CallRmdir, api.CallUnlink:
		return ends(g.unlink(c))
	case api.CallRename:
		return ends(g.rename(c))
	case api.CallChmod, api.CallTouch:
		return ends(g.set(c))
	case api.CallUsage:
		return fmt.Sprintf("usage %d\n", g.live())
	case api.CallUnmount:
		*g = *g.mounted()
	case api.CallTarget, api.CallList, api.CallStat, api.CallLook:
		return g.tell(c)
	}
	return "ok\n"
}

func (g *ghost) make(path string, o thing) string {
	dir, name, there, e := g.spot(path)
	isLink := o.kind == api.TypeLink
	switch {
	case e != "":
		return e
	case tooLong(g.way(dir) + "/" + name):
		return "long"
	case o.mode < 0 || o.mode > 4095:
		return "node"
	case isLink && (len(o.target) < 1 || len(o.target) > 127 || strings.Contains(o.target, "\x00")):
		return "target"
	case there != 0:
		return "exists"
	}
	id := 2
	for g.things[id].kind != 0 {
		id++
	}
	o.up, o.name, o.pages = dir, name, map[int]int{}
	if !g.step(true, 0, func() { g.put(id, o) }) {
		return "space"
	}
	return ""
}

func (g *ghost) open(c api.Call) string {
	has := func(flags int) bool { return c.Flags&flags != 0 }
	if c.Flags < 0 || c.Flags > 31 || !has(1|2) || has(8) && !has(4) || has(16) && !has(2) {
		return "error flags\n"
	}
	if len(g.hands) == 64 {
		return "error many\n"
	}
	if has(4) {
		_, _, there, e := g.spot(c.Path)
		if e == "" && there != 0 && has(8) {
			e = "exists"
		}
		if e == "" && there == 0 {
			e = g.make(c.Path, thing{kind: api.TypeFile, mode: c.Mode})
		}
		if e != "" {
			return ends(e)
		}
	}
	id, e := g.walk(c.Path, true)
	if e == "" && g.things[id].kind == api.TypeDir {
		e = "isdir"
	}
	if e == "" && has(16) {
		e = g.cut(id, 0)
	}
	if e != "" {
		return ends(e)
	}
	h := 1
	for g.hands[h].file != 0 {
		h++
	}
	g.hands[h] = hand{id, c.Flags}
	return fmt.Sprintf("handle %d\n", h)
}

func (g *ghost) byHandle(c api.Call) string {
	h := g.hands[c.Handle]
	e, most, reads := "", g.c<<20, c.Op == api.CallRead
	switch {
	case h.file == 0:
		e = "handle"
	case c.Op == api.CallClose:
		delete(g.hands, c.Handle)
		g.loosen(h.file)
		return "ok\n"
	case reads && h.flags&1 == 0, !reads && h.flags&2 == 0:
		e = "mode"
	case c.At < 0 || c.Size < 0:
		e = "range"
	case !reads && (c.Size > most || c.At+len(c.Data) > most):
		e = "big"
	}
	bytes := g.things[h.file].bytes
	switch {
	case c.Op == api.CallWrite:
		done := 0
		if e == "" {
			done, e = g.write(h.file, c.At, string(c.Data))
		}
		if e == "" {
			return fmt.Sprintf("wrote %d\n", done)
		}
		return fmt.Sprintf("error %s %d\n", e, done)
	case e != "":
		return ends(e)
	case reads:
		from := min(c.At, len(bytes))
		return fmt.Sprintf("data x%x\n", bytes[from:min(from+c.Size, len(bytes))])
	}
	return ends(g.cut(h.file, c.Size))
}

func (g *ghost) write(id, at int, data string) (int, string) {
	done := 0
	for done < len(data) {
		o := g.things[id]
		k := (at + done) / g.c
		end := min(at+len(data), (k+1)*g.c)
		o.bytes += strings.Repeat("\x00", max(0, end-len(o.bytes)))
		o.bytes = o.bytes[:at+done] + data[done:end-at] + o.bytes[end:]
		_, there := o.pages[k]
		o.pages = maps.Clone(o.pages)
		o.pages[k] = k
		if !g.step(!there, end-at, func() { g.put(id, o) }) {
			return done, "space"
		}
		done = end - at
	}
	return done, ""
}

func (g *ghost) cut(id, size int) string {
	o := g.things[id]
	if size == len(o.bytes) {
		return ""
	}
	o.bytes = (o.bytes + strings.Repeat("\x00", max(0, size-len(o.bytes))))[:size]
	if !g.step(false, 0, func() { g.put(id, o) }) {
		return "space"
	}
	return ""
}

func (g *ghost) unlink(c api.Call) string {
	_, _, id, e := g.spot(c.Path)
	o := g.things[id]
	switch {
	case e != "":
		return e
	case id == 0:
		return "missing"
	case c.Op == api.CallRmdir && o.kind != api.TypeDir:
		return "notdir"
	case c.Op == api.CallUnlink && o.kind == api.TypeDir:
		return "isdir"
	case len(g.in(id)) > 0:
		return "used"
	}
	o.up = 0
	if !g.step(false, 0, func() { g.put(id, o) }) {
		return "space"
	}
	g.loosen(id)
	return ""
}

func (g *ghost) rename(c api.Call) string {
	_, _, id, e := g.spot(c.Path)
	dir, name, other, f := g.spot(c.To)
	switch {
	case e != "":
		return e
	case f != "":
		return f
	case id == 0:
		return "missing"
	}
	o, t := g.things[id], g.things[other]
	old, way := g.way(id), g.way(dir)+"/"+name
	for _, x := range g.below(id) {
		if tooLong(way + strings.TrimPrefix(g.way(x), old)) {
			return "long"
		}
	}
	isDir, wasDir := o.kind == api.TypeDir, t.kind == api.TypeDir
	switch {
	case isDir && strings.HasPrefix(way, old+"/"):
		return "into"
	case other == id:
		return ""
	case other != 0 && wasDir && !isDir:
		return "isdir"
	case other != 0 && isDir && !wasDir:
		return "notdir"
	case other != 0 && len(g.in(other)) > 0:
		return "used"
	}
	o.up, o.name, t.up = dir, name, 0
	change := func() {
		g.put(id, o)
		if other != 0 {
			g.put(other, t)
		}
	}
	if !g.step(false, 0, change) {
		return "space"
	}
	if other != 0 {
		g.loosen(other)
	}
	return ""
}

func (g *ghost) set(c api.Call) string {
	id, e := g.walk(c.Path, true)
	o := g.things[id]
	mode, stamp := c.Mode, o.stamp
	if c.Op == api.CallTouch {
		mode, stamp = o.mode, c.Stamp
	}
	switch {
	case e != "":
		return e
	case id == 1:
		return "root"
	case mode < 0 || mode > 4095:
		return "node"
	case mode == o.mode && stamp == o.stamp:
		return ""
	}
	o.mode, o.stamp = mode, stamp
	if !g.step(false, 0, func() { g.put(id, o) }) {
		return "space"
	}
	return ""
}

func (g *ghost) tell(c api.Call) string {
	id, e := g.walk(c.Path, c.Op == api.CallList || c.Op == api.CallStat)
	o := g.things[id]
	switch {
	case e != "":
	case c.Op == api.CallTarget && o.kind != api.TypeLink:
		e = "type"
	case c.Op == api.CallTarget:
		return "target " + quoted(o.target) + "\n"
	case c.Op == api.CallList && o.kind != api.TypeDir:
		e = "notdir"
	case c.Op == api.CallList:
		list := g.in(id)
		text := fmt.Sprintf("list %d\n", len(list))
		for _, x := range list {
			text += fmt.Sprintf("entry %s %d %s\n", quoted(g.things[x].name), x, kindName(g.things[x].kind))
		}
		return text
	default:
		return fmt.Sprintf("stat %d %s %d %d %d\n", id, kindName(o.kind), len(o.bytes), o.mode, o.stamp)
	}
	return ends(e)
}

// somePath picks a path; most of them lead to something, or to where something could be.
func (g *ghost) somePath(r *rand.Rand) string {
	name := someOf(r, "a", "b", "c", "l", "d e", "#", "\xff", "%", "..", strings.Repeat("n", 63))
	linked := slices.DeleteFunc(slices.Sorted(maps.Keys(g.things)), func(id int) bool { return g.things[id].up == 0 })
	way := g.way(someOf(r, linked...))
	switch r.Intn(24) {
	case 0:
		return someOf(r, "", "a", "/", "/..", "//", "/\x00", "/"+strings.Repeat("n", 64), strings.Repeat("/a", 65), strings.Repeat("/", 1024))
	case 1:
		return way + "/../" + name + "/."
	case 2, 3, 4, 5, 6, 7:
		return way + "/" + name
	case 8, 9:
		return "/" + name
	}
	return max("/", way)
}

func (g *ghost) someHandle(r *rand.Rand) int {
	if open := slices.Sorted(maps.Keys(g.hands)); len(open) > 0 && r.Intn(15) > 0 {
		return someOf(r, open...)
	}
	return r.Intn(67) - 1
}

// someOrder picks a line that is about what there is; many of them are taken.
func (g *ghost) someOrder(r *rand.Rand) string {
	if r.Intn(2) == 0 {
		return g.someGrowth(r)
	}
	p, q, h := quoted(g.somePath(r)), quoted(g.somePath(r)), g.someHandle(r)
	size := someOf(r, 0, 1, g.c-1, g.c, g.c+1, r.Intn(3*g.c), r.Intn(5*g.c))
	at := someOf(r, 0, 0, g.c-1, g.c, r.Intn(4*g.c), someOf(r, 0, -1, 2147483647))
	lines := []string{
		"open " + p + " " + someOf(r, "rwc", "rwc", "rwc", "wc", "rw", "r", "rcn", "wcn", "wce", "we", "-", "n", "re") + " " + someOf(r, "420", "0", "4095", "4096", "-1"),
		fmt.Sprintf("write %d %d p%d:%d", h, at, size, r.Intn(256)),
		fmt.Sprintf("write %d %d x%016x", h, at, r.Uint64()),
		fmt.Sprintf("truncate %d %d", h, someOf(r, size, size, size, -1, 2147483647)),
		fmt.Sprintf("read %d %d %d", h, at, someOf(r, size, 2147483647, -1)),
		fmt.Sprintf("close %d", h),
		fmt.Sprintf("mkdir %s %d", p, someOf(r, 493, 493, 0, -1, 4096)),
		"rmdir " + p, "unlink " + p, "unlink " + p, "rename " + p + " " + q, "rename " + p + " " + q,
		"link " + p + " " + someOf(r, q, q, p, p, "a", "../b", "%", "%00", strings.Repeat("t", 128)),
		"target " + p, "list " + p, "stat " + p, "look " + p, "tree", "usage",
		fmt.Sprintf("chmod %s %d", p, someOf(r, 7, 4095, 4096)),
		fmt.Sprintf("touch %s %d", p, r.Uint64()>>r.Intn(64)),
	}
	return someOf(r, lines...)
}

// someGrowth picks a line by which the tree grows, if there is room.
func (g *ghost) someGrowth(r *rand.Rand) string {
	name := quoted("/" + someOf(r, "a", "b", "c", "f", "g", "h"))
	if len(g.hands) < 3 {
		return "open " + name + " rwc 420"
	}
	return someOf(r, fmt.Sprintf("write %d %d p%d:%d", g.someHandle(r), r.Intn(2*g.c), r.Intn(4*g.c), r.Intn(256)), fmt.Sprintf("mkdir %s 493", name), fmt.Sprintf("touch %s %d", name, r.Uint64()))
}
