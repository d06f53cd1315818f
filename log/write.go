package log

import (
	"shale/api"
	"shale/leaf"
	"shale/node"
)

// Why a call ends at once: these are thrown deep inside, and caught at its face (ended).
type (
	cut    struct{} // the power went
	broken struct{} // no block or no serial is left, or what is to be copied can't be read
	unsaid struct{} // a tail is not written to its end
)

// entry is a record on its way to the chip.
type entry struct {
	api.Record
	begin uint64 // the floor; of a copy the one that its clean is to bring
	once  bool   // a part of a tail: what fails is not tried again
}

// real: it says something new.
func (w entry) real() bool { return w.Flags&api.FlagCopy == 0 }

// giveUp ends a call in which there is no block to go on with.
func (w entry) giveUp() {
	if w.once {
		panic(unsaid{})
	}
	panic(broken{})
}

// failed ends a tail; others go on with another block.
func (w entry) failed() {
	if w.once {
		panic(unsaid{})
	}
}

// done tells whether a command went well; where the power went, the call ends.
func done(e api.Errno) bool {
	if e == api.ErrOff {
		panic(cut{})
	}
	return e == api.OK
}

// program writes a page, and tells its tags. Its serial is used up whatever comes of it: a page that has failed may be whole all the same.
func (l *Log) program(at api.Place, w entry) (api.Tags, bool) {
	if l.next > api.MaxSerial {
		panic(broken{})
	}
	t := api.Tags{
		Kind: w.Kind, Flags: w.Flags, Serial: l.next, Begin: w.begin,
		Object: w.Object, Chunk: w.Chunk, Count: len(w.Data),
	}
	l.next++
	page, e := leaf.Build(l.Geometry(), t, w.Data)
	return t, e == api.OK && done(l.chip.Program(at, page))
}

// open takes the next free block that can be erased and take a head, for the entry that is to come into it.
func (l *Log) open(w entry) {
again:
	block, there := l.blocks.Pick()
	if !there {
		w.giveUp()
	}
	head, well := l.begin(block)
	if !well {
		l.retire(block)
		w.failed()
		goto again
	}
	l.blocks.Start(block, head.Serial)
	l.page = 1
	l.commit(block)
}

// begin erases a block and writes its head.
func (l *Log) begin(block int) (api.Tags, bool) {
	if !done(l.chip.Erase(block)) {
		return api.Tags{}, false
	}
	head := entry{Record: api.Record{Kind: api.KindHead}, begin: l.floor}
	return l.program(api.Place{Block: block}, head)
}

// retire marks a block. Whatever the mark comes to, it is not taken again in this life.
func (l *Log) retire(block int) {
	if !done(l.chip.Mark(block)) {
		l.unmarked = true
	}
	l.blocks.Bad(block)
}

// commit: a real page went well in a block, so that what was copied counts, and what it was copied from may go.
func (l *Log) commit(block int) {
	l.last = block
	doomed, _ := l.blocks.Commit(block)
	for _, b := range doomed {
		l.retire(b)
	}
}

// append writes an entry behind the last one, and tells where.
func (l *Log) append(w entry) api.Place {
again:
	if l.full() {
		l.blocks.Shut()
		l.open(w)
	}
	block, _ := l.blocks.Open()
	at := api.Place{Block: block, Page: l.page}
	t, well := l.program(at, w)
	if !well {
		l.blocks.Wait()
		w.failed()
		goto again
	}
	l.page++
	l.takeIn(t, w.Data, at)
	if w.real() {
		l.blocks.Real()
		l.commit(block)
	}
	return at
}

// full: there is no page left, or no block is open.
func (l *Log) full() bool {
	_, open := l.blocks.Open()
	return !open || l.page == l.Geometry().Pages
}

// takeIn: the table follows, and how many pages of each block are current. (A part of a checkpoint says nothing of objects: it is never current.)
func (l *Log) takeIn(t api.Tags, data []byte, at api.Place) {
	if t.Kind == api.KindSave {
		return
	}
	gone, _ := l.table.Apply(t, data, at)
	l.blocks.Live(at.Block, 1)
	l.release(gone)
}

// clean copies what is current in the oldest block, and lets it leave; false: there is none to clean.
func (l *Log) clean() bool {
	victim, floor, there := l.blocks.Clean()
	if !there {
		return false
	}
	for page := range l.Geometry().Pages {
		id, chunk, current := l.table.At(api.Place{Block: victim, Page: page})
		if current {
			l.append(entry{Record: l.copyOf(id, chunk), begin: floor})
		}
	}
	l.blocks.Leave(victim)
	l.floor = floor
	return true
}

// copyOf tells the record that says once more what is so: of a header, if the chunk is below 0.
func (l *Log) copyOf(id, chunk int) api.Record {
	if chunk < 0 {
		n, _ := l.table.Node(id)
		data, _ := node.Pack(n)
		return api.Record{Kind: api.KindNode, Flags: api.FlagCopy, Object: id, Data: data}
	}
	piece, _ := l.table.Piece(id, chunk)
	data, e := l.read(piece)
	if !done(e) {
		panic(broken{})
	}
	return api.Record{Kind: api.KindData, Flags: api.FlagCopy, Object: id, Chunk: chunk, Data: data}
}
