package seglog

import (
	"strconv"
	"strings"
	"testing"

	"landmark/api"
	"landmark/vfs"
)

// gather is what one goes over.
func gather(records func(func([]byte) bool)) string {
	var all []string
	for b := range records {
		all = append(all, string(b))
	}
	return strings.Join(all, "|")
}

// P5.3: Records: left early, at each place, and gone through twice.
func TestRecordsLeft(t *testing.T) {
	l := opened(t, made(t, 1000), "a", 20)
	appended(t, l, "one", "", "two", "x")
	seq := l.Records()
	for n := range 6 {
		var some []string
		for b := range seq {
			if len(some) == n {
				break
			}
			some = append(some, string(b))
		}
		if want := []string{"one", "", "two", "x"}[:min(n, 4)]; strings.Join(some, "|") != strings.Join(want, "|") {
			t.Errorf("left behind %d: %q", n, some)
		}
	}
	if gather(seq) != "one||two|x" || gather(seq) != "one||two|x" {
		t.Errorf("again: %q", gather(seq))
	}
	inner := 0
	for range seq {
		for range seq {
			inner++
		}
	}
	if inner != 16 {
		t.Error("within itself:", inner)
	}
}

// P5.3: Records: as they are when it is called, whatever the log does then.
func TestRecordsWhileTheLogChanges(t *testing.T) {
	d := made(t, 1000)
	l := opened(t, d, "a", 20)
	none := l.Records()
	appended(t, l, "one", "two")
	two := l.Records()
	n := 0
	for b := range two {
		appended(t, l, string(b)+strconv.Itoa(n))
		n++
	}
	four := l.Records()
	if n != 2 || gather(two) != "one|two" || gather(none) != "" || gather(four) != "one|two|one0|two1" {
		t.Error(n, gather(none), gather(two), gather(four))
	}
	for range four {
		expect(t, "Turn", api.OK, l.Turn([]byte("s")))
		appended(t, l, "x")
	}
	if gather(none) != "" || gather(two) != "one|two" || gather(four) != "one|two|one0|two1" || gather(l.Records()) != "x" {
		t.Error(gather(none), gather(two), gather(four), gather(l.Records()))
	}
	d.Fuse(0)
	expect(t, "no power", api.ErrDead, l.Append([]byte("y")))
	if gather(four) != "one|two|one0|two1" || gather(l.Records()) != "x" {
		t.Error(gather(four), gather(l.Records()))
	}
}

// P5.3: Records: two ways on from one list do not meet.
func TestRecordsApart(t *testing.T) {
	l := opened(t, made(t, 9999), "a", 99)
	var seqs []func(func([]byte) bool)
	want := ""
	var wants []string
	for i := range 40 {
		seqs, wants = append(seqs, l.Records()), append(wants, strings.TrimPrefix(want, "|"))
		appended(t, l, strconv.Itoa(i))
		want += "|" + strconv.Itoa(i)
	}
	for i, seq := range seqs {
		if gather(seq) != wants[i] {
			t.Error(i, gather(seq), wants[i])
		}
	}
}

// Rules: what is answered is in new memory: what is written into it reaches nothing.
func TestAnswersMemory(t *testing.T) {
	d := made(t, 1000)
	l := opened(t, d, "a", 99)
	expect(t, "Turn", api.OK, l.Turn([]byte("snap")))
	appended(t, l, "one", "two")
	for _, x := range []*Log{l, opened(t, d, "a", 99)} {
		seq := x.Records()
		for b := range seq {
			_ = append(b, "XXXXXXXXXXXXXXXXXXX"...)
			clear(b)
		}
		b, _ := x.Snapshot()
		_ = append(b, "XXXXXXXXXXXXXXXXXXX"...)
		clear(b)
		if told(x) != "snap|one|two" || gather(seq) != "one|two" {
			t.Error(told(x), gather(seq))
		}
	}
	if told(opened(t, d, "a", 99)) != "snap|one|two" {
		t.Error("on the disk")
	}
}

// P5.3: Snapshot: none, one of no bytes, and one of some are three.
func TestSnapshot(t *testing.T) {
	d := made(t, 1000)
	l := opened(t, d, "a", 99)
	for _, x := range []*Log{l, opened(t, d, "a", 99)} {
		if b, is := x.Snapshot(); len(b) != 0 || is {
			t.Error("none:", b, is)
		}
	}
	for _, s := range []string{"", "s", "", "\x00\x01"} {
		expect(t, "Turn", api.OK, l.Turn([]byte(s)))
		for _, x := range []*Log{l, opened(t, d, "a", 99)} {
			if b, is := x.Snapshot(); string(b) != s || !is {
				t.Errorf("%q: %q, %v", s, b, is)
			}
		}
	}
}

// P5.3: Segments goes from the first one on; behind a Turn there is one again.
func TestSegments(t *testing.T) {
	l := opened(t, made(t, 1000), "a", 1)
	for i := range 5 {
		if l.Segments() != i+1 || l.Segment() != i+1 || l.Len() != i || l.Synced() != i {
			t.Error(looks(l))
		}
		appended(t, l, "x")
	}
	expect(t, "Turn", api.OK, l.Turn(nil))
	expectLooks(t, "Turn", l, "; 0, 0 last; 1 to 8")
	appended(t, l, "x")
	expectLooks(t, "Append", l, "|x; 1, 1 last; 2 to 9")
}

// P5.3: nil logs, and zero ones, tell nothing.
func TestNilLooks(t *testing.T) {
	for _, l := range []*Log{nil, {}} {
		mustPanicNot(t, "nil", func() {
			expectLooks(t, "nil", l, "-; 0, 0 last; 0 to 0")
			if b, is := l.Snapshot(); len(b) != 0 || is || l.ReadOnly() {
				t.Error(b, is)
			}
			for range l.Records() {
				t.Error("a record")
			}
		})
	}
	expect(t, "of a zero one, again", api.ErrNil, new(Log).Sync())
}

// P5.3: looks change nothing on the disk, and go on without power.
func TestLooksWithoutPower(t *testing.T) {
	d := made(t, 1000)
	l := opened(t, d, "a", 20)
	expect(t, "Turn", api.OK, l.Turn([]byte("s")))
	appended(t, l, "one", "two", "x")
	d.Fuse(0)
	expect(t, "no power", api.ErrDead, d.SyncDir())
	before, changes := listing(d), d.Changes()
	expectLooks(t, "no power, not met yet", l, "s|one|two|x; 3, 2 last; 2 to 4")
	expect(t, "Sync", api.ErrDead, l.Sync())
	expectLooks(t, "no power", l, "s|one|two|x; 3, 2 last; 2 to 4; read only")
	expect(t, "read only", api.ErrReadOnly, l.Sync())
	expectListing(t, "no power", d, before)
	if d.Changes() != changes {
		t.Error(d.Changes() - changes)
	}
	expectRefused(t, "no power", api.ErrDead, d, "a", 20)
	expectRefused(t, "no power", api.ErrDead, d, "b", 20)
}

// P5.3: a log that is read only tells what it told, whatever becomes of its files.
func TestLooksReadOnly(t *testing.T) {
	d := made(t, 1000)
	l := opened(t, d, "a", 20)
	appended(t, l, "one", "two", "x")
	expect(t, "Lay", api.OK, d.Lay(0, api.ErrDisk))
	expect(t, "a fault", api.ErrDisk, l.Append([]byte("y")))
	want := "-|one|two|x; 3, 2 last; 2 to 2; read only"
	expectLooks(t, "a fault", l, want)
	x := opened(t, d, "a", 20)
	expect(t, "Turn of another one", api.OK, x.Turn([]byte("s")))
	expectLooks(t, "behind the other one's Turn", l, want)
	expectReadOnly(t, "behind the other one's Turn", d, l)
}

// P0.6: no call panics, whatever the files hold.
func TestNoPanic(t *testing.T) {
	for what, files := range corrupts() {
		mustPanicNot(t, what, func() {
			l, _ := Open(holding(t, files...), "a", 9)
			looks(l)
			l.Append(nil)
			l.Sync()
			l.Turn(nil)
		})
	}
	mustPanicNot(t, "no disk", func() { Open((*vfs.Disk)(nil), "a", 9) })
}
