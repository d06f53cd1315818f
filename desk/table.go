package desk

import (
	"math"

	"shale/api"
)

// command is what a first word stands for: an order's sign, what the words behind it say, and how the order is done.
type command struct {
	sign
	word  string
	asks  []part
	more  part // what further words say, if there may be some
	most  int  // how many of these there may be
	needs need
	do    func(*desk, api.Order)
}

// sign is by what an order is known.
type sign struct{ kind, op int }

func signOf(o api.Order) sign {
	if o.Kind == api.OrderCall {
		return sign{o.Kind, o.Call.Op}
	}
	return sign{kind: o.Kind}
}

func call(op int) sign { return sign{api.OrderCall, op} }

// commands tells all of them by their words.
func commands() map[string]command {
	num, kind, fill := numPart{-mostNumber, mostNumber}, kindPart{}, numPart{0, math.MaxUint8}
	data, bytes := dataPart{orderData}, dataPart{callData}
	path, to, flags, mode, stamp := pathPart{pathField}, pathPart{toField}, flagsPart{}, fieldPart{modeField}, stampPart{}
	handle, at, size := fieldPart{handleField}, fieldPart{atField}, fieldPart{sizeField}
	return map[string]command{
		"chip":  {sign: sign{kind: api.OrderChip}, asks: []part{num, num, num}, more: numsPart{num}, most: math.MaxInt, do: (*desk).newChip},
		"fault": {sign: sign{kind: api.OrderFault}, asks: []part{num, kind, fill}, more: maskPart{data}, most: 1, do: (*desk).layBy},
		"flip":  {sign: sign{kind: api.OrderFlip}, asks: []part{num, num, num}, needs: aChip, do: (*desk).flip},
		"load":  {sign: sign{kind: api.OrderLoad}, asks: []part{data}, do: (*desk).load},
		"tree":  {sign: sign{kind: api.OrderTree}, needs: aDisk, do: (*desk).tree},
		"audit": {sign: sign{kind: api.OrderAudit}, needs: aChip, do: (*desk).audit},
		"dump":  {sign: sign{kind: api.OrderDump}, needs: aChip, do: (*desk).dump},
		"trace": {sign: sign{kind: api.OrderTrace}, asks: []part{num}, needs: aChip, do: (*desk).trace},
		"store": {sign: sign{kind: api.OrderStore}, asks: []part{path}, needs: aDisk, do: (*desk).store},
		"take":  {sign: sign{kind: api.OrderTake}, asks: []part{path, data}, needs: aDisk, do: (*desk).take},

		"open":     {sign: call(api.CallOpen), asks: []part{path, flags, mode}, needs: aDisk, do: (*desk).open},
		"close":    {sign: call(api.CallClose), asks: []part{handle}, needs: aDisk, do: (*desk).call},
		"read":     {sign: call(api.CallRead), asks: []part{handle, at, size}, needs: aDisk, do: (*desk).read},
		"write":    {sign: call(api.CallWrite), asks: []part{handle, at, bytes}, needs: aDisk, do: (*desk).writeFile},
		"truncate": {sign: call(api.CallTruncate), asks: []part{handle, size}, needs: aDisk, do: (*desk).call},
		"mkdir":    {sign: call(api.CallMkdir), asks: []part{path, mode}, needs: aDisk, do: (*desk).call},
		"rmdir":    {sign: call(api.CallRmdir), asks: []part{path}, needs: aDisk, do: (*desk).call},
		"unlink":   {sign: call(api.CallUnlink), asks: []part{path}, needs: aDisk, do: (*desk).call},
		"rename":   {sign: call(api.CallRename), asks: []part{path, to}, needs: aDisk, do: (*desk).call},
		"link":     {sign: call(api.CallLink), asks: []part{path, to}, needs: aDisk, do: (*desk).call},
		"target":   {sign: call(api.CallTarget), asks: []part{path}, needs: aDisk, do: (*desk).target},
		"list":     {sign: call(api.CallList), asks: []part{path}, needs: aDisk, do: (*desk).list},
		"stat":     {sign: call(api.CallStat), asks: []part{path}, needs: aDisk, do: (*desk).stat},
		"look":     {sign: call(api.CallLook), asks: []part{path}, needs: aDisk, do: (*desk).stat},
		"chmod":    {sign: call(api.CallChmod), asks: []part{path, mode}, needs: aDisk, do: (*desk).call},
		"touch":    {sign: call(api.CallTouch), asks: []part{path, stamp}, needs: aDisk, do: (*desk).call},
		"sync":     {sign: call(api.CallSync), needs: aDisk, do: (*desk).call},
		"usage":    {sign: call(api.CallUsage), needs: aDisk, do: (*desk).usage},
		"unmount":  {sign: call(api.CallUnmount), needs: aDisk, do: (*desk).unmount},
		"mount":    {sign: call(api.CallMount), needs: aRawChip, do: (*desk).mount},
		"format":   {sign: call(api.CallFormat), needs: aRawChip, do: (*desk).format},
		"power":    {sign: call(api.CallPower), needs: aChip, do: (*desk).power},
	}
}

// bySign tells commands by the orders that they give.
func bySign(known map[string]command) map[sign]command {
	rows := make(map[sign]command, len(known))
	for word, c := range known {
		c.word = word
		rows[c.sign] = c
	}
	return rows
}

// read lays what a line says behind its first word into an order; else it tells the error, and the byte.
func (c command) read(l *line, o *api.Order) (api.Errno, int) {
	for _, p := range c.asks {
		word, at := l.next()
		if word == "" {
			return api.ErrLine, at
		}
		if e := p.read(word, o); e != api.OK {
			return e, at
		}
	}
	for n := 0; ; n++ {
		word, at := l.next()
		if word == "" {
			return api.OK, 0
		}
		if n == c.most {
			return api.ErrLine, at
		}
		if e := c.more.read(word, o); e != api.OK {
			return e, at
		}
	}
}

// show writes an order's line; false, if something in it cannot be said, or is not asked for.
func (c command) show(o api.Order, to *builder) bool {
	o.Line, o.Kind = 0, 0
	if c.kind == api.OrderCall {
		o.Call.Op = 0
	}
	to.word(c.word)
	for _, p := range c.asks {
		if !p.show(&o, to) {
			return false
		}
	}
	if c.more != nil && !c.more.show(&o, to) {
		return false
	}
	to.end()
	return !says(o)
}

// says tells whether there is something in an order.
func says(o api.Order) bool {
	c := o.Call
	return o.Line != 0 || o.Kind != 0 || len(o.Nums) > 0 || len(o.Data) > 0 ||
		c.Op != 0 || c.Path != "" || c.To != "" || c.Handle != 0 || c.At != 0 || c.Size != 0 ||
		len(c.Data) > 0 || c.Flags != 0 || c.Mode != 0 || c.Stamp != 0
}
