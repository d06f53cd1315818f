package files

import "shale/api"

// Call makes a call that is given as plain data (but CallMount, CallFormat, CallPower).
func (d *Disk) Call(c api.Call) api.Reply {
	if c.Op < api.CallOpen || c.Op > api.CallUnmount {
		return api.Reply{E: api.ErrCommand}
	}
	var r api.Reply
	d.calls(c, &r)[c.Op]()
	return r
}

// calls tells, by Op, what makes a call and lays its answer into a reply.
func (d *Disk) calls(c api.Call, r *api.Reply) [api.CallUnmount + 1]func() {
	return [...]func(){
		api.CallOpen:     func() { r.Number, r.E = d.Open(c.Path, c.Flags, c.Mode) },
		api.CallClose:    func() { r.E = d.Close(c.Handle) },
		api.CallRead:     func() { r.Data, r.E = d.Read(c.Handle, c.At, c.Size) },
		api.CallWrite:    func() { r.Number, r.E = d.Write(c.Handle, c.At, c.Data) },
		api.CallTruncate: func() { r.E = d.Truncate(c.Handle, c.Size) },
		api.CallMkdir:    func() { r.E = d.Mkdir(c.Path, c.Mode) },
		api.CallRmdir:    func() { r.E = d.Rmdir(c.Path) },
		api.CallUnlink:   func() { r.E = d.Unlink(c.Path) },
		api.CallRename:   func() { r.E = d.Rename(c.Path, c.To) },
		api.CallLink:     func() { r.E = d.Link(c.Path, c.To) },
		api.CallTarget:   func() { r.Text, r.E = d.Target(c.Path) },
		api.CallList:     func() { r.Entries, r.E = d.List(c.Path) },
		api.CallStat:     func() { r.Stat, r.E = d.Stat(c.Path) },
		api.CallLook:     func() { r.Stat, r.E = d.Look(c.Path) },
		api.CallChmod:    func() { r.E = d.Chmod(c.Path, c.Mode) },
		api.CallTouch:    func() { r.E = d.Touch(c.Path, c.Stamp) },
		api.CallSync:     func() { r.E = d.Sync() },
		api.CallUsage:    func() { r.Usage, r.E = d.Usage() },
		api.CallUnmount:  func() { r.E = d.Unmount() },
	}
}
