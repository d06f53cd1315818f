package log

import "shale/api"

// Step writes a record as a page.
func (l *Log) Step(r api.Record) (e api.Errno) {
	if e := l.refuses(r); e != api.OK {
		return e
	}
	defer func() { e = l.ended(recover(), e) }()
	if l.full() {
		l.blocks.Shut()
	}
	l.makeRoom()
	if !l.roomy() && !(l.letsGo(r) && l.blocks.Near() >= l.least()) {
		return api.ErrSpace
	}
	l.append(entry{Record: r, begin: l.floor})
	return api.OK
}

// refuses tells why a record is not tried at all.
func (l *Log) refuses(r api.Record) api.Errno {
	switch {
	case l.halted:
		return api.ErrHalted
	case l.chip.Dark():
		return api.ErrOff
	case !l.mayBe(r):
		return api.ErrRecord
	case l.grows(r) && l.table.Live()+1 > l.limit():
		return api.ErrSpace
	}
	return api.OK
}

// makeRoom cleans till there is room for a step, each block once at most.
func (l *Log) makeRoom() {
	for range l.blocks.Logged() {
		if l.roomy() || !l.clean() {
			return
		}
	}
}

// roomy tells whether there are as many blocks ahead of a step as a clean may need, and failures.
func (l *Log) roomy() bool {
	if l.full() {
		return l.blocks.Near() >= api.Keep
	}
	return l.blocks.Near() >= api.Keep-1
}

// least tells with how many blocks a record goes on that lets go: it makes the room that is missing.
func (l *Log) least() int {
	if l.full() {
		return 2
	}
	return 1
}

// ended tells what a call answers that has come to its end with e, or was ended deep inside.
func (l *Log) ended(why any, e api.Errno) api.Errno {
	switch why.(type) {
	case nil:
		return e
	case unsaid:
		return api.OK
	case cut:
		l.halted = true
		return api.ErrOff
	case broken:
		l.halted = true
		return api.ErrBroken
	}
	panic(why)
}
