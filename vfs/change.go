package vfs

import (
	"maps"

	"landmark/api"
)

// kind says what a change is.
type kind int

const (
	kindMake kind = iota
	kindAppend
	kindSync
	kindCut
	kindRename
	kindRemove
	kindSyncDir
)

// leaves tells whether a change of this kind does something although it met that: an Append's bytes come to the disk ahead of the fault, or of the power's end.
func (k kind) leaves(met api.Errno) bool {
	return k == kindAppend && met != api.ErrFull
}

// entry is a make, a rename or a remove, as the list of changes has it.
type entry struct {
	kind     kind
	name, to string
	made     *file
}

// can tells whether it can be done to a directory.
func (c entry) can(dir directory) bool {
	isThere := dir[c.name] != nil
	return isThere != (c.kind == kindMake)
}

func (c entry) apply(dir directory) {
	switch c.kind {
	case kindMake:
		dir[c.name] = c.made
	case kindRename:
		// Taken out first, so that a rename to itself leaves the file there.
		f := dir[c.name]
		delete(dir, c.name)
		dir[c.to] = f
	case kindRemove:
		delete(dir, c.name)
	}
}

// change does what a change is there for, where nothing stands in its way; what it did meet is handed to it.
func (d *Disk) change(k kind, do func(met api.Errno)) api.Errno {
	if d.dead {
		return api.ErrDead
	}
	d.changes++
	met := d.meet()
	if met == api.OK || k.leaves(met) {
		do(met)
	}
	return met
}

// enter does a change of the directory, and lists it.
func (d *Disk) enter(c entry) api.Errno {
	return d.change(c.kind, func(api.Errno) {
		c.apply(d.files)
		d.since = append(d.since, c)
	})
}

// Make is a new file, without bytes.
func (d *Disk) Make(name string) api.Errno {
	_, e := d.find(name, true)
	switch {
	case e == api.OK:
		return api.ErrExists
	case e != api.ErrNone:
		return e
	case len(d.files) >= api.MaxFiles:
		return api.ErrFull
	}
	return d.enter(entry{kind: kindMake, name: name, made: &file{}})
}

// Append puts bytes at a file's end, loose.
func (d *Disk) Append(name string, b []byte) api.Errno {
	f, e := d.find(name, true)
	switch {
	case e != api.OK:
		return e
	case len(b) > d.Room():
		return api.ErrFull
	}
	return d.change(kindAppend, func(met api.Errno) {
		n := len(b)
		if met == api.ErrDisk {
			n /= 2
		}
		f.bytes = append(f.bytes, b[:n]...)
	})
}

// Sync makes all of a file last.
func (d *Disk) Sync(name string) api.Errno {
	f, e := d.find(name, true)
	if e != api.OK {
		return e
	}
	return d.change(kindSync, func(api.Errno) { f.lasts = len(f.bytes) })
}

// Cut leaves a file its first n bytes; what lasts of it is cut at once.
func (d *Disk) Cut(name string, n int) api.Errno {
	f, e := d.find(name, n >= 0)
	switch {
	case e != api.OK:
		return e
	case n > len(f.bytes):
		return api.ErrArg
	}
	return d.change(kindCut, func(api.Errno) {
		f.bytes = f.bytes[:n]
		f.lasts = min(f.lasts, n)
	})
}

// Rename gives a file another name; one that had it is gone.
func (d *Disk) Rename(name, to string) api.Errno {
	if _, e := d.find(name, MayName(to)); e != api.OK {
		return e
	}
	return d.enter(entry{kind: kindRename, name: name, to: to})
}

// Remove is the end of a file.
func (d *Disk) Remove(name string) api.Errno {
	if _, e := d.find(name, true); e != api.OK {
		return e
	}
	return d.enter(entry{kind: kindRemove, name: name})
}

// SyncDir makes the directory last.
func (d *Disk) SyncDir() api.Errno {
	if d.isNone() {
		return api.ErrNil
	}
	return d.change(kindSyncDir, func(api.Errno) {
		d.lasting = maps.Clone(d.files)
		d.since = nil
	})
}
