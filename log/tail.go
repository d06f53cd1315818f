package log

import "shale/api"

// linkBytes is how many bytes of a part's page tell where the part ahead of it is.
const linkBytes = 4

// Tail writes the parts of a checkpoint, if there is room for all without cleaning; it tells whether it has.
func (l *Log) Tail(parts [][]byte) (written bool, e api.Errno) {
	switch {
	case l.halted:
		return false, api.OK
	case l.chip.Dark():
		return false, api.ErrOff
	case !l.partsMayBe(parts):
		return false, api.ErrRecord
	case l.unmarked || !l.hasRoomFor(len(parts)):
		return false, api.OK
	}
	defer func() { e = l.ended(recover(), e) }()
	l.writeParts(parts)
	return true, api.OK
}

func (l *Log) partsMayBe(parts [][]byte) bool {
	for _, p := range parts {
		if len(p) < 1 || len(p) > l.capacity()-linkBytes {
			return false
		}
	}
	return len(parts) >= 1 && len(parts) <= api.MaxCells
}

// hasRoomFor tells whether so many pages can be written without taking what a step needs; while a block waits, none can.
func (l *Log) hasRoomFor(parts int) bool {
	free, left := 0, 0
	for _, x := range l.blocks.List() {
		switch x.State {
		case api.BlockFree:
			free++
		case api.BlockOpen:
			left = l.Geometry().Pages - l.page
		case api.BlockWaiting:
			return false
		}
	}
	return parts <= left+max(0, free-(api.Keep-1))*(l.Geometry().Pages-1)
}

// writeParts writes each part behind the place of the one ahead of it, so that a mount can go back from the last one.
func (l *Log) writeParts(parts [][]byte) {
	link := []byte{255, 255, 255, 255}
	for i, part := range parts {
		r := api.Record{Kind: api.KindSave, Object: len(parts), Chunk: i, Data: joined(link, part)}
		if i == len(parts)-1 {
			r.Flags = api.FlagEnd
		}
		at := l.append(entry{Record: r, begin: l.floor, once: true})
		link = linkTo(at)
	}
}

func joined(link, part []byte) []byte {
	return append(append(make([]byte, 0, len(link)+len(part)), link...), part...)
}

// linkTo tells a place as bytes, two a number, the lowest first.
func linkTo(p api.Place) []byte {
	return []byte{byte(p.Block), byte(p.Block >> 8), byte(p.Page), byte(p.Page >> 8)}
}
