package vfs

import (
	"maps"
	"slices"

	"landmark/api"
)

// noFuse is where a fuse stands that there is none of.
const noFuse = -1

// fault refuses a change, behind so many that go on. A zero one refuses none.
type fault struct {
	ahead int
	code  api.Errno
}

// meet is the fault's error at the change that it refuses.
func (f *fault) meet() api.Errno {
	if f.ahead > 0 {
		f.ahead--
		return api.OK
	}
	code := f.code
	*f = fault{}
	return code
}

// meet is what a change meets; OK: nothing stands in its way.
func (d *Disk) meet() api.Errno {
	met := d.fault.meet()
	switch {
	case d.fuse > 0:
		d.fuse--
	case d.fuse == 0 && met == api.OK:
		// A fuse that a fault met at its end stays there: the power goes at the next change.
		d.dead = true
		met = api.ErrDead
	}
	return met
}

// Fuse lays a fuse, in the place of the one that was. It brings no power back.
func (d *Disk) Fuse(n int) {
	if !d.isNone() {
		d.fuse = max(n, noFuse)
	}
}

// Lay lays a fault, in the place of the one that was.
func (d *Disk) Lay(n int, e api.Errno) api.Errno {
	switch {
	case d.isNone():
		return api.ErrNil
	case n < 0 || e != api.ErrFull && e != api.ErrDisk:
		return api.ErrArg
	}
	d.fault = fault{ahead: n, code: e}
	return api.OK
}

// redo is the directory that lasts, with those of the changes since that are chosen, and can be done to it.
func (d *Disk) redo(chosen func() bool) directory {
	dir := maps.Clone(d.lasting)
	for _, c := range d.since {
		if chosen() && c.can(dir) {
			c.apply(dir)
		}
	}
	return dir
}

// Crash is the disk behind a loss of power; the picks tell what comes through of what does not last.
func (d *Disk) Crash(picks ...int) *Disk {
	if d.isNone() {
		return nil
	}
	next := func() int {
		if len(picks) == 0 {
			return 0
		}
		pick := picks[0]
		picks = picks[1:]
		return max(pick, 0)
	}
	dir := d.redo(func() bool { return next()%2 == 1 })
	for _, name := range dir.names() {
		f := dir[name].copy()
		if f.loose() > 0 {
			f.bytes = f.bytes[:f.lasts+next()%(f.loose()+1)]
		}
		f.lasts = len(f.bytes)
		dir[name] = f
	}
	return fresh(d.capacity, dir)
}

// Copy is a disk that goes on apart.
func (d *Disk) Copy() *Disk {
	if d.isNone() {
		return nil
	}
	c := *d
	c.lasting = directory{}
	for name, f := range d.lasting {
		c.lasting[name] = f.copy()
	}
	c.since = slices.Clone(d.since)
	for i, x := range c.since {
		if x.kind == kindMake {
			c.since[i].made = x.made.copy()
		}
	}
	// Done again, all changes of the list lead to the same directory, so that each file is copied just once.
	c.files = c.redo(func() bool { return true })
	return &c
}
