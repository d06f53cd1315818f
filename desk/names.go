package desk

import "shale/api"

// nameOf tells an error's name.
func nameOf(e api.Errno) string {
	return [...]string{
		api.OK:       "ok",
		api.ErrShort: "short", api.ErrWidth: "width", api.ErrDigits: "digits",
		api.ErrSector: "sector", api.ErrTwo: "two",
		api.ErrRail: "rail", api.ErrLength: "length",
		api.ErrShape: "shape", api.ErrPlace: "place", api.ErrPage: "page", api.ErrRule: "rule", api.ErrFailed: "failed",
		api.ErrOff: "off", api.ErrFlip: "flip", api.ErrImage: "image", api.ErrFault: "fault",
		api.ErrTags: "tags", api.ErrField: "field",
		api.ErrNode: "node", api.ErrName: "name", api.ErrTarget: "target",
		api.ErrKey:    "key",
		api.ErrObject: "object", api.ErrRecord: "record",
		api.ErrBlock: "block",
		api.ErrSpace: "space", api.ErrBroken: "broken", api.ErrHalted: "halted",
		api.ErrNone: "none",
		api.ErrSave: "save",
		api.ErrBig:  "big", api.ErrRange: "range",
		api.ErrPath: "path", api.ErrLong: "long",
		api.ErrMissing: "missing", api.ErrExists: "exists", api.ErrNotDir: "notdir", api.ErrIsDir: "isdir",
		api.ErrUsed: "used", api.ErrHandle: "handle", api.ErrMode: "mode", api.ErrLoop: "loop", api.ErrInto: "into",
		api.ErrRoot: "root", api.ErrFlags: "flags", api.ErrMany: "many", api.ErrType: "type", api.ErrClosed: "closed",
		api.ErrParcel: "parcel", api.ErrPiece: "piece", api.ErrSum: "sum",
		api.ErrAudit: "audit",
		api.ErrMagic: "magic", api.ErrVersion: "version", api.ErrTail: "tail",
		api.ErrCommand: "command", api.ErrWord: "word", api.ErrLine: "line", api.ErrNumber: "number", api.ErrState: "state",
	}[e]
}

// typeNames has, by its number, each type's name.
var typeNames = [...]string{
	api.TypeFile: "file",
	api.TypeDir:  "dir",
	api.TypeLink: "link",
}

// commandNames has, by its number, the name of each of a chip's commands.
var commandNames = [...]string{
	api.CmdProgram: "program",
	api.CmdErase:   "erase",
	api.CmdMark:    "mark",
}
