package seglog

import (
	"slices"
	"strconv"
	"strings"

	"landmark/api"
	"landmark/vfs"
	"landmark/wire"
)

// greatest is the greatest number that a segment or a snapshot may have.
const greatest = 1<<31 - 1

// What stands behind a log's name and the dot: of the manifest, of one that is not in its place yet, and ahead of a snapshot's number.
const (
	manifestEnding = "man"
	draftEnding    = "new"
	snapshotSign   = "s"
)

// numberWidth is that of a manifest's numbers.
const numberWidth = 8

// place is where a log stands.
type place struct {
	disk *vfs.Disk
	name string
}

func (p place) file(ending string) string { return p.name + "." + ending }

func (p place) segmentFile(n int) string { return p.file(strconv.Itoa(n)) }

func (p place) snapshotFile(n int) string { return p.file(snapshotSign + strconv.Itoa(n)) }

// part is a segment or a snapshot that is there, whether a manifest names it or not.
type part struct {
	file      string
	number    int
	isSegment bool
}

// numberOf is the number whose text it is; 0: it is none's.
func numberOf(text string) int {
	n, err := strconv.Atoi(text)
	// Written anew, so that signs and noughts ahead are found out.
	if err != nil || n < 1 || n > greatest || strconv.Itoa(n) != text {
		return 0
	}
	return n
}

// parts is all segments and snapshots that are there, by rising names.
func (p place) parts() []part {
	var list []part
	for file := range p.disk.Files() {
		ending, isOurs := strings.CutPrefix(file, p.file(""))
		if !isOurs {
			continue
		}
		text, isSnapshot := strings.CutPrefix(ending, snapshotSign)
		if n := numberOf(text); n != 0 {
			list = append(list, part{file: file, number: n, isSegment: !isSnapshot})
		}
	}
	return list
}

// segmentsFrom is the numbers of the segments from the first one on, rising.
func (p place) segmentsFrom(first int) []int {
	var numbers []int
	for _, x := range p.parts() {
		if x.isSegment && x.number >= first {
			numbers = append(numbers, x.number)
		}
	}
	slices.Sort(numbers)
	return numbers
}

// next is the next number, if there are so many of them.
func (p place) next(many int) (int, api.Errno) {
	last := 0
	for _, x := range p.parts() {
		last = max(last, x.number)
	}
	if greatest-last < many {
		return 0, api.ErrFull
	}
	return last + 1, api.OK
}

// inTurn does one step behind the other, up to the first that is refused.
func inTurn(steps ...func() api.Errno) api.Errno {
	for _, do := range steps {
		if e := do(); e != api.OK {
			return e
		}
	}
	return api.OK
}

// makeNext makes the segment of the next number.
func (p place) makeNext() (int, api.Errno) {
	n, e := p.next(1)
	if e != api.OK {
		return 0, e
	}
	return n, p.disk.Make(p.segmentFile(n))
}

// write makes a file of a record. It lasts when the directory does.
func (p place) write(file string, record []byte) api.Errno {
	return inTurn(
		func() api.Errno { return p.disk.Make(file) },
		func() api.Errno { return p.disk.Append(file, record) },
		func() api.Errno { return p.disk.Sync(file) },
	)
}

// removeIfThere is for what an opening or a turn that did not come to its end may have left.
func (p place) removeIfThere(file string) api.Errno {
	if _, e := p.disk.Lasts(file); e != api.OK {
		return api.OK
	}
	return p.disk.Remove(file)
}

// lay lays a manifest.
func (p place) lay(snapshot, first int) api.Errno {
	// Numbers have room in this width, and both in a record.
	one, _ := wire.Put(uint64(snapshot), numberWidth)
	two, _ := wire.Put(uint64(first), numberWidth)
	record, _ := Record(wire.Join(one, two))
	draft := p.file(draftEnding)
	return inTurn(
		func() api.Errno { return p.removeIfThere(draft) },
		func() api.Errno { return p.write(draft, record) },
		// The draft's name, and those of what it names, must last ahead of the rename, or a loss of power might keep that alone.
		p.disk.SyncDir,
		func() api.Errno { return p.disk.Rename(draft, p.file(manifestEnding)) },
		p.disk.SyncDir,
	)
}

// removeOthers removes all segments and snapshots but one of each, by rising names.
func (p place) removeOthers(snapshot, segment int) api.Errno {
	kept := []string{p.snapshotFile(snapshot), p.segmentFile(segment)}
	var steps []func() api.Errno
	for _, x := range p.parts() {
		if !slices.Contains(kept, x.file) {
			steps = append(steps, func() api.Errno { return p.disk.Remove(x.file) })
		}
	}
	return inTurn(steps...)
}

// namedBy is the numbers that a manifest names, and whether it is one.
func namedBy(manifest []byte) (snapshot, first int, isOne bool) {
	// Of what is no record the reader has no bytes, and so is not whole.
	record, _ := only(manifest)
	r := wire.Read(record)
	one, two := r.Number(numberWidth), r.Number(numberWidth)
	if r.End() != api.OK || one > greatest || two < 1 || two > greatest {
		return 0, 0, false
	}
	return int(one), int(two), true
}
