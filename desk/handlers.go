package desk

import (
	"shale/api"
	"shale/audit"
	"shale/chip"
	"shale/files"
	"shale/image"
	"shale/parcel"
)

// layBy keeps no more faults than one above what a chip takes: these are refused as all would be, and their masks may be great.
func (d *desk) layBy(o api.Order) {
	if len(d.faults) <= api.MaxEvents {
		d.faults = append(d.faults, api.Fault{At: o.Nums[0], Kind: o.Nums[1], Fill: byte(o.Nums[2]), Mask: o.Data})
	}
	d.tellOK(api.OK)
}

func (d *desk) newChip(o api.Order) {
	g := api.Geometry{Blocks: o.Nums[0], Pages: o.Nums[1], Sectors: o.Nums[2]}
	d.insert(chip.New(g, o.Nums[3:], taken(&d.faults)))
}

func (d *desk) load(o api.Order) {
	faults := taken(&d.faults)
	m, e := image.Read(o.Data)
	if e != api.OK {
		d.refuse(e)
		return
	}
	d.insert(chip.Load(m, faults))
}

// insert puts a chip in the place of the one that is there, with what is mounted on it.
func (d *desk) insert(c *chip.Chip, e api.Errno) {
	if e == api.OK {
		d.chip, d.disk = c, nil
	}
	d.tellOK(e)
}

func (d *desk) flip(o api.Order) {
	d.tellOK(d.chip.Flip(api.Place{Block: o.Nums[0], Page: o.Nums[1]}, o.Nums[2]))
}

func (d *desk) format(api.Order) { d.tellOK(files.Format(d.chip)) }

func (d *desk) mount(api.Order) {
	disk, e := files.Mount(d.chip)
	d.disk = disk
	d.tellOK(e)
}

func (d *desk) power(api.Order) {
	d.chip.On()
	d.disk = nil
	d.tellOK(api.OK)
}

func (d *desk) unmount(api.Order) { d.tellOK(taken(&d.disk).Unmount()) }

func (d *desk) call(o api.Order) { d.tellOK(d.disk.Call(o.Call).E) }

func (d *desk) open(o api.Order) {
	r := d.disk.Call(o.Call)
	d.tell(r.E, "handle", number(r.Number))
}

func (d *desk) read(o api.Order) {
	r := d.disk.Call(o.Call)
	d.tellData(r.E, "data", r.Data)
}

func (d *desk) writeFile(o api.Order) {
	r := d.disk.Call(o.Call)
	d.tellCount(r.E, "wrote", r.Number)
}

func (d *desk) target(o api.Order) {
	r := d.disk.Call(o.Call)
	d.tell(r.E, "target", shownPath(r.Text))
}

func (d *desk) list(o api.Order) {
	r := d.disk.Call(o.Call)
	d.tell(r.E, "list", number(len(r.Entries)))
	for _, x := range r.Entries {
		d.line("entry", shownPath(x.Name), number(x.Id), typeNames[x.Type])
	}
}

func (d *desk) stat(o api.Order) {
	r := d.disk.Call(o.Call)
	s := r.Stat
	d.tell(r.E, "stat", number(s.Id), typeNames[s.Type], number(s.Size), number(s.Mode), stamp(s.Stamp))
}

func (d *desk) usage(o api.Order) {
	r := d.disk.Call(o.Call)
	u := r.Usage
	d.tell(r.E, "usage", number(u.Good), number(u.Live), number(u.Limit))
}

func (d *desk) tree(api.Order) {
	tree, e := d.disk.Tree()
	if e != api.OK {
		d.refuse(e)
		return
	}
	for _, l := range tree {
		d.leaf(l)
	}
}

func (d *desk) leaf(l api.Leaf) {
	for _, s := range []string{"leaf", shownPath(l.Path), typeNames[l.Type], number(l.Mode), stamp(l.Stamp)} {
		d.word(s)
	}
	switch l.Type {
	case api.TypeFile:
		d.data(l.Data)
	case api.TypeLink:
		d.word(shownPath(l.Target))
	}
	d.end()
}

func (d *desk) audit(api.Order) {
	r, e := audit.Run(d.chip.Image())
	if e != api.OK {
		d.refuse(e)
		return
	}
	d.write(audit.Show(r))
}

func (d *desk) trace(o api.Order) {
	n := o.Nums[0]
	if n < 0 {
		d.refuse(api.ErrNumber)
		return
	}
	list := d.chip.Trace()
	d.line("trace", number(len(list)))
	for _, c := range list[max(0, len(list)-n):] {
		d.command(c)
	}
}

func (d *desk) command(c api.Command) {
	d.word(commandNames[c.Kind])
	d.word(number(c.Block))
	if c.Kind == api.CmdProgram {
		d.word(number(c.Page))
	}
	d.word(nameOf(c.Status))
	d.end()
}

func (d *desk) dump(api.Order) {
	b, e := image.Pack(d.chip.Image())
	d.tellData(e, "dump", b)
}

func (d *desk) store(o api.Order) {
	b, e := parcel.Store(d.disk, o.Call.Path)
	d.tellData(e, "data", b)
}

func (d *desk) take(o api.Order) {
	n, e := parcel.Take(d.disk, o.Call.Path, o.Data)
	d.tellCount(e, "took", n)
}
