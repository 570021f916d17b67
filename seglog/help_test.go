package seglog

import (
	"encoding/binary"
	"fmt"
	"hash/crc32"
	"strings"
	"testing"

	"landmark/api"
	"landmark/vfs"
)

// raw is a record's bytes, written from the chapter anew.
func raw(b string) string {
	head := binary.BigEndian.AppendUint32(nil, uint32(len(b)))
	sum := crc32.Checksum(append(head, b...), crc32.MakeTable(crc32.Castagnoli))
	return string(binary.BigEndian.AppendUint32(head, sum)) + b
}

// spoiled is a record's bytes with a wrong sum.
func spoiled(b string) string {
	r := []byte(raw(b))
	r[7] ^= 1
	return string(r)
}

// pair is two numbers of eight bytes.
func pair(one, two uint64) string {
	return string(binary.BigEndian.AppendUint64(binary.BigEndian.AppendUint64(nil, one), two))
}

// manifest is a manifest's bytes.
func manifest(snapshot, first uint64) string { return raw(pair(snapshot, first)) }

func made(t *testing.T, capacity int) *vfs.Disk {
	t.Helper()
	d, e := vfs.New(capacity)
	if d == nil || e != api.OK {
		t.Fatalf("New(%d): %v", capacity, e)
	}
	return d
}

// expect wants these answers, one by one.
func expect(t *testing.T, what string, want api.Errno, got ...api.Errno) {
	t.Helper()
	for i, e := range got {
		if e != want {
			t.Errorf("%s, answer %d: %v; want %v", what, i, e, want)
		}
	}
}

// holding is a disk with these files, names and bytes by turns, all of which last.
func holding(t *testing.T, files ...string) *vfs.Disk {
	t.Helper()
	d := made(t, api.MaxDisk)
	for i := 0; i < len(files); i += 2 {
		put(t, d, files[i], files[i+1])
	}
	return d
}

// put makes a file that lasts.
func put(t *testing.T, d *vfs.Disk, name, b string) {
	t.Helper()
	expect(t, name, api.OK, d.Make(name), d.Append(name, []byte(b)), d.Sync(name), d.SyncDir())
}

func opened(t *testing.T, d *vfs.Disk, name string, most int) *Log {
	t.Helper()
	l, e := Open(d, name, most)
	if l == nil || e != api.OK {
		t.Fatalf("Open(%s, %d): %v", name, most, e)
	}
	return l
}

// expectRefused wants that a log is not opened.
func expectRefused(t *testing.T, what string, want api.Errno, d *vfs.Disk, name string, most int) {
	t.Helper()
	if l, e := Open(d, name, most); l != nil || e != want {
		t.Errorf("%s: Open(%.20q, %d): %v, %v; want %v", what, name, most, l, e, want)
	}
}

// told is a log's snapshot, '-' without one, and its records, a '|' ahead of each.
func told(l *Log) string {
	text := "-"
	if b, is := l.Snapshot(); is {
		text = string(b)
	}
	for b := range l.Records() {
		text += "|" + string(b)
	}
	return text
}

// looks is all that a log tells, as a text.
func looks(l *Log) string {
	text := fmt.Sprintf("%s; %d, %d last; %d to %d", told(l), l.Len(), l.Synced(), l.Segments(), l.Segment())
	if l.ReadOnly() {
		text += "; read only"
	}
	return text
}

func expectLooks(t *testing.T, what string, l *Log, want string) {
	t.Helper()
	if got := looks(l); got != want {
		t.Errorf("%s: %q; want %q", what, got, want)
	}
}

// listing is a disk's files, each with how many bytes it has and how many of them last, and how many changes of the directory do not.
func listing(d *vfs.Disk) string {
	var all []string
	for name, size := range d.Files() {
		lasts, _ := d.Lasts(name)
		all = append(all, fmt.Sprintf("%s:%d/%d", name, size, lasts))
	}
	return fmt.Sprintf("%s +%d", strings.Join(all, " "), d.Pending())
}

func expectListing(t *testing.T, what string, d *vfs.Disk, want string) {
	t.Helper()
	if got := listing(d); got != want {
		t.Errorf("%s: %q; want %q", what, got, want)
	}
}

// names is a disk's files by their names.
func names(d *vfs.Disk) string {
	var all []string
	for name := range d.Files() {
		all = append(all, name)
	}
	return strings.Join(all, " ")
}

func read(t *testing.T, d *vfs.Disk, name string) string {
	t.Helper()
	b, e := d.Read(name)
	expect(t, "Read "+name, api.OK, e)
	return string(b)
}

// appended appends records, all of which are taken.
func appended(t *testing.T, l *Log, records ...string) {
	t.Helper()
	for _, b := range records {
		expect(t, "Append", api.OK, l.Append([]byte(b)))
	}
}

// mustPanicNot fails the test with a call's name, should it panic.
func mustPanicNot(t *testing.T, what string, call func()) {
	t.Helper()
	defer func() {
		if x := recover(); x != nil {
			t.Errorf("%s: panic: %v", what, x)
		}
	}()
	call()
}
