package seglog

import (
	"strings"
	"testing"

	"landmark/api"
	"landmark/vfs"
)

// P5.2: Append: the record stands behind the others, loose.
func TestAppend(t *testing.T) {
	d := made(t, 1000)
	l := opened(t, d, "a", 99)
	before := d.Changes()
	appended(t, l, "one", "", "two")
	expectLooks(t, "three records", l, "-|one||two; 3, 0 last; 1 to 1")
	expectListing(t, "three records", d, "a.1:30/0 a.man:24/24 +0")
	if read(t, d, "a.1") != raw("one")+raw("")+raw("two") || d.Changes() != before+3 {
		t.Errorf("%q, %d", read(t, d, "a.1"), d.Changes()-before)
	}
	expect(t, "nil", api.OK, l.Append(nil))
	expectLooks(t, "nil", l, "-|one||two|; 4, 0 last; 1 to 1")
	expectLooks(t, "opened anew", opened(t, d, "a", 99), "-|one||two|; 4, 4 last; 1 to 1")
}

// P5.2: records of MaxRecord bytes, and of one more: ErrLong, which makes nothing read only.
func TestAppendLong(t *testing.T) {
	d := made(t, api.MaxDisk)
	l := opened(t, d, "a", 1<<20)
	longest := strings.Repeat("z", api.MaxRecord)
	before := listing(d)
	expect(t, "one byte more", api.ErrLong, l.Append([]byte(longest+"z")), l.Append(make([]byte, 1<<24)))
	expectListing(t, "one byte more", d, before)
	expectLooks(t, "one byte more", l, "-; 0, 0 last; 1 to 1")
	appended(t, l, longest[1:])
	if l.Len() != 1 || l.Segment() != 2 {
		t.Error(l.Len(), l.Segment())
	}
	appended(t, l, longest)
	if told(l) != "-|"+longest[1:]+"|"+longest || l.Segment() != 3 || l.Synced() != 2 {
		t.Error(l.Len(), l.Segment(), l.Synced())
	}
	if x := opened(t, d, "a", 1); told(x) != told(l) {
		t.Error(x.Len())
	}
}

// P5.2: a record that brings a segment just to the most; one byte more; and mosts of 1 and 2^20.
func TestAppendMost(t *testing.T) {
	for _, c := range []struct {
		most    int
		records []string
		want    string
	}{
		{1, []string{"", "", ""}, "-|||; 3, 3 last; 4 to 4"},
		{7, []string{""}, "-|; 1, 1 last; 2 to 2"},
		{8, []string{""}, "-|; 1, 0 last; 1 to 1"},
		{8, []string{"", ""}, "-||; 2, 2 last; 2 to 2"},
		{8, []string{"", "", ""}, "-|||; 3, 2 last; 2 to 2"},
		{8, []string{"x"}, "-|x; 1, 1 last; 2 to 2"},
		{20, []string{"one", "x"}, "-|one|x; 2, 0 last; 1 to 1"},
		{19, []string{"one", "x"}, "-|one|x; 2, 2 last; 2 to 2"},
		{20, []string{"one", "xy"}, "-|one|xy; 2, 2 last; 2 to 2"},
		{20, []string{"one", "xy", "one", "x"}, "-|one|xy|one|x; 4, 2 last; 2 to 2"},
		{20, []string{"one", "xy", "one", "x", ""}, "-|one|xy|one|x|; 5, 5 last; 3 to 3"},
	} {
		d := made(t, 1000)
		l := opened(t, d, "a", c.most)
		appended(t, l, c.records...)
		expectLooks(t, "a most", l, c.want)
		x := opened(t, d, "a", 99)
		if told(x) != told(l) || x.Segment() != l.Segment() || x.Segments() != l.Segments() {
			t.Errorf("opened anew: %q; want %q", looks(x), looks(l))
		}
	}
	big := strings.Repeat("z", 1<<20-8)
	l := opened(t, made(t, api.MaxDisk), "a", 1<<20)
	appended(t, l, big)
	if l.Segment() != 1 {
		t.Error(l.Segment())
	}
	appended(t, l, "")
	if l.Segment() != 2 {
		t.Error(l.Segment())
	}
}

// P5.2: it goes on, change by change: the record, a sync of the segment, the next one, a sync of the directory.
func TestAppendGoesOn(t *testing.T) {
	for n, want := range []string{
		"a.1:29/11 a.man:24/24 +0",
		"a.1:29/11 a.man:24/24 +0",
		"a.1:29/29 a.man:24/24 +0",
		"a.1:29/29 a.2:0/0 a.man:24/24 +1",
		"a.1:29/29 a.2:0/0 a.man:24/24 +0",
	} {
		d := made(t, 1000)
		l := opened(t, d, "a", 20)
		appended(t, l, "one")
		expect(t, "Sync", api.OK, l.Sync())
		appended(t, l, "x")
		d.Fuse(n)
		e := l.Append([]byte("y"))
		if (e == api.OK) != (n == 4) {
			t.Error(n, e)
		}
		expectListing(t, "Append", d, want)
		if n == 4 {
			expectLooks(t, "gone on", l, "-|one|x|y; 3, 3 last; 2 to 2")
			expect(t, "the next one", api.ErrDead, l.Append([]byte("z")))
		} else {
			expectLooks(t, "refused", l, "-|one|x; 2, 1 last; 1 to 1; read only")
		}
	}
}

// P5.2: what it goes on to has the next number, above files that are not named, too; others count not.
func TestAppendNextNumber(t *testing.T) {
	d := made(t, 1000)
	l := opened(t, d, "a", 8)
	put(t, d, "a.s40", "?")
	put(t, d, "b.77", "?")
	put(t, d, "a.088", "?")
	put(t, d, "a.99x", "?")
	appended(t, l, "x")
	expectLooks(t, "a snapshot that is not named", l, "-|x; 1, 1 last; 2 to 41")
	put(t, d, "a.100", "")
	appended(t, l, "y", "z")
	expectLooks(t, "a segment", l, "-|x|y|z; 3, 3 last; 4 to 102")
	// The one that was put there counts as one of the log's.
	expectLooks(t, "opened anew", opened(t, d, "a", 8), "-|x|y|z; 3, 3 last; 5 to 102")
}

// P5.2: a segment that has more than the most already, by an opening, goes on with the next record.
func TestAppendBehindMore(t *testing.T) {
	d := made(t, 1000)
	appended(t, opened(t, d, "a", 99), "one", "two")
	l := opened(t, d, "a", 9)
	expectLooks(t, "a smaller most", l, "-|one|two; 2, 2 last; 1 to 1")
	appended(t, l, "")
	expectLooks(t, "the next record", l, "-|one|two|; 3, 3 last; 2 to 2")
	l = opened(t, d, "a", 99)
	appended(t, l, strings.Repeat("y", 91))
	if l.Segment() != 2 {
		t.Error("a greater most", l.Segment())
	}
	// What was cut off does not count.
	d = holding(t, "a.man", manifest(0, 1), "a.1", raw("x")+"torn")
	l = opened(t, d, "a", 18)
	appended(t, l, "y")
	expectLooks(t, "behind a cut", l, "-|x|y; 2, 1 last; 1 to 1")
	appended(t, l, "")
	expectLooks(t, "behind a cut", l, "-|x|y|; 3, 3 last; 2 to 2")
}

// P5.2: ErrFull: the greatest number, and no next one: the log is read only; what was appended is found, or not.
func TestAppendNoNextNumber(t *testing.T) {
	for _, name := range []string{"a.2147483647", "a.s2147483647"} {
		d := made(t, 1000)
		l := opened(t, d, "a", 20)
		appended(t, l, "one")
		put(t, d, name, "")
		appended(t, l, "x")
		expect(t, "no next number", api.ErrFull, l.Append([]byte("y")))
		expectLooks(t, "no next number", l, "-|one|x; 2, 0 last; 1 to 1; read only")
		expect(t, "read only", api.ErrReadOnly, l.Append(nil), l.Sync(), l.Turn(nil))
		x := opened(t, d, "a", 20)
		if s := told(x); s != "-|one|x|y" && s != "-|one|x" {
			t.Error(s)
		}
	}
	d := holding(t, "a.man", manifest(0, 1), "a.1", "", "a.2147483646", "")
	l := opened(t, d, "a", 8)
	appended(t, l, "x")
	expectLooks(t, "the greatest", l, "-|x; 1, 1 last; 3 to 2147483647")
	appended(t, l, "")
	expectLooks(t, "just the most", l, "-|x|; 2, 1 last; 3 to 2147483647")
	expect(t, "no next number", api.ErrFull, l.Append(nil))
	expectLooks(t, "no next number", l, "-|x|; 2, 1 last; 3 to 2147483647; read only")
}

// P5.2: the disk's errors come ahead of ErrFull for want of a number.
func TestAppendOrder(t *testing.T) {
	for n, want := range []api.Errno{api.ErrDisk, api.ErrDisk, api.ErrFull} {
		d := holding(t, "a.man", manifest(0, 1), "a.1", "", "a.2147483647", "")
		l := opened(t, d, "a", 8)
		expect(t, "Lay", api.OK, d.Lay(n, api.ErrDisk))
		expect(t, "Append", want, l.Append([]byte("x")))
		if !l.ReadOnly() {
			t.Error(n, "not read only")
		}
	}
}

// P5.2: Sync: all records last, at one change, whether there are new ones or not.
func TestSync(t *testing.T) {
	d := made(t, 1000)
	l := opened(t, d, "a", 20)
	for _, want := range []string{"-; 0, 0 last; 1 to 1", "-|x; 1, 1 last; 1 to 1", "-|x|y; 2, 2 last; 1 to 1", "-|x|y|z; 3, 3 last; 2 to 2", "-|x|y|z|x; 4, 4 last; 2 to 2"} {
		before := d.Changes()
		expect(t, "Sync", api.OK, l.Sync(), l.Sync())
		if d.Changes() != before+2 {
			t.Error(d.Changes() - before)
		}
		expectLooks(t, "Sync", l, want)
		if told(opened(t, d.Crash(), "a", 20)) != told(l) {
			t.Error("lost behind", want)
		}
		appended(t, l, string(rune('x'+l.Len()%3)))
	}
}

// turnable is a disk with a log that says snap|x|y, of two segments, with a draft and a segment that is not named.
func turnable(t *testing.T) (*vfs.Disk, *Log) {
	t.Helper()
	d := holding(t, "a.man", manifest(4, 5), "a.s4", raw("snap"), "a.5", raw("x"), "a.10", "", "a.2", "?", "a.s1", "?", "a.new", "half", "a.x", "?", "b.3", "?", "a.02", "?", "a", "?")
	l := opened(t, d, "a", 99)
	appended(t, l, "y")
	return d, l
}

// P5.2: Turn: the log has that snapshot, and no records; all but what it names is removed.
func TestTurn(t *testing.T) {
	d, l := turnable(t)
	before := d.Changes()
	expect(t, "Turn", api.OK, l.Turn([]byte("turned")))
	expectLooks(t, "Turn", l, "turned; 0, 0 last; 1 to 12")
	expectListing(t, "Turn", d, "a:1/1 a.02:1/1 a.12:0/0 a.man:24/24 a.s11:14/14 a.x:1/1 b.3:1/1 +5")
	if read(t, d, "a.man") != manifest(11, 12) || read(t, d, "a.s11") != raw("turned") || d.Changes() != before+17 {
		t.Errorf("%x, %q, %d", read(t, d, "a.man"), read(t, d, "a.s11"), d.Changes()-before)
	}
	expectLooks(t, "opened anew", opened(t, d, "a", 99), looks(l))
	expectLooks(t, "behind a loss of power", opened(t, d.Crash(), "a", 99), looks(l))
	appended(t, l, "z")
	expectLooks(t, "records behind", l, "turned|z; 1, 0 last; 1 to 12")
	expect(t, "Turn to nil", api.OK, l.Turn(nil))
	expectLooks(t, "Turn to nil", l, "; 0, 0 last; 1 to 14")
	if b, is := l.Snapshot(); len(b) != 0 || !is || names(d) != "a a.02 a.14 a.man a.s13 a.x b.3" {
		t.Error(b, is, names(d))
	}
	expect(t, "Turn, at once again", api.OK, l.Turn([]byte{}), l.Turn([]byte("t")))
	expectLooks(t, "Turn, at once again", opened(t, d, "a", 99), "t; 0, 0 last; 1 to 18")
}

// P5.2: Turn, change by change.
func TestTurnSteps(t *testing.T) {
	rest := " a.x:1/1 b.3:1/1"
	front := "a:1/1 a.02:1/1 a.10:9/9"
	for n, want := range []string{
		"a:1/1 a.02:1/1 a.10:9/0 a.2:1/1 a.5:9/9 a.man:24/24 a.new:4/4 a.s1:1/1 a.s4:12/12" + rest + " +0",
		front + " a.2:1/1 a.5:9/9 a.man:24/24 a.new:4/4 a.s1:1/1 a.s4:12/12" + rest + " +0",
		front + " a.2:1/1 a.5:9/9 a.man:24/24 a.new:4/4 a.s1:1/1 a.s11:14/0 a.s4:12/12" + rest + " +1",
		front + " a.2:1/1 a.5:9/9 a.man:24/24 a.new:4/4 a.s1:1/1 a.s11:14/0 a.s4:12/12" + rest + " +1",
		front + " a.2:1/1 a.5:9/9 a.man:24/24 a.new:4/4 a.s1:1/1 a.s11:14/14 a.s4:12/12" + rest + " +1",
		front + " a.12:0/0 a.2:1/1 a.5:9/9 a.man:24/24 a.new:4/4 a.s1:1/1 a.s11:14/14 a.s4:12/12" + rest + " +2",
		front + " a.12:0/0 a.2:1/1 a.5:9/9 a.man:24/24 a.s1:1/1 a.s11:14/14 a.s4:12/12" + rest + " +3",
		front + " a.12:0/0 a.2:1/1 a.5:9/9 a.man:24/24 a.new:24/0 a.s1:1/1 a.s11:14/14 a.s4:12/12" + rest + " +4",
		front + " a.12:0/0 a.2:1/1 a.5:9/9 a.man:24/24 a.new:24/0 a.s1:1/1 a.s11:14/14 a.s4:12/12" + rest + " +4",
		front + " a.12:0/0 a.2:1/1 a.5:9/9 a.man:24/24 a.new:24/24 a.s1:1/1 a.s11:14/14 a.s4:12/12" + rest + " +4",
		front + " a.12:0/0 a.2:1/1 a.5:9/9 a.man:24/24 a.new:24/24 a.s1:1/1 a.s11:14/14 a.s4:12/12" + rest + " +0",
		front + " a.12:0/0 a.2:1/1 a.5:9/9 a.man:24/24 a.s1:1/1 a.s11:14/14 a.s4:12/12" + rest + " +1",
		front + " a.12:0/0 a.2:1/1 a.5:9/9 a.man:24/24 a.s1:1/1 a.s11:14/14 a.s4:12/12" + rest + " +0",
		"a:1/1 a.02:1/1 a.12:0/0 a.2:1/1 a.5:9/9 a.man:24/24 a.s1:1/1 a.s11:14/14 a.s4:12/12" + rest + " +1",
		"a:1/1 a.02:1/1 a.12:0/0 a.5:9/9 a.man:24/24 a.s1:1/1 a.s11:14/14 a.s4:12/12" + rest + " +2",
		"a:1/1 a.02:1/1 a.12:0/0 a.man:24/24 a.s1:1/1 a.s11:14/14 a.s4:12/12" + rest + " +3",
		"a:1/1 a.02:1/1 a.12:0/0 a.man:24/24 a.s11:14/14 a.s4:12/12" + rest + " +4",
		"a:1/1 a.02:1/1 a.12:0/0 a.man:24/24 a.s11:14/14" + rest + " +5",
	} {
		d, l := turnable(t)
		d.Fuse(n)
		e := l.Turn([]byte("turned"))
		if n < 17 {
			expect(t, "Turn", api.ErrDead, e)
			expectLooks(t, "refused", l, "snap|x|y; 2, 1 last; 2 to 10; read only")
		} else {
			expect(t, "Turn", api.OK, e)
		}
		expectListing(t, "Turn, behind "+string(rune('a'+n)), d, want)
	}
}

// P5.2: Turn leaves files whose names are none of the log's.
func TestTurnLeavesOthers(t *testing.T) {
	d := made(t, 1000)
	others := strings.Fields("a a-1 a. a.-7 a.0 a.03 a.1.2 a.1a a.2147483648 a.99999999999999999999 a.m a.mann a.new1 a.s a.s-7 a.s0 a.s05 a.s1s a.s2147483648 a.ss1 aa.1 b.1 b.man xa.1")
	for _, name := range others {
		put(t, d, name, "?")
	}
	l := opened(t, d, "a", 99)
	for range 2 {
		appended(t, l, "x")
		expect(t, "Turn", api.OK, l.Turn([]byte("s")))
	}
	for _, name := range others {
		if read(t, d, name) != "?" {
			t.Error(name)
		}
	}
	if n := len(strings.Fields(names(d))); n != len(others)+3 || l.Segment() != 5 {
		t.Error(names(d), l.Segment())
	}
}

// P5.2: snapshots of MaxRecord bytes, and of one more.
func TestTurnLong(t *testing.T) {
	d, l := turnable(t)
	before, was := listing(d), looks(l)
	expect(t, "one byte more", api.ErrLong, l.Turn(make([]byte, api.MaxRecord+1)))
	expectListing(t, "one byte more", d, before)
	expectLooks(t, "one byte more", l, was)
	longest := strings.Repeat("z", api.MaxRecord)
	expect(t, "MaxRecord", api.OK, l.Turn([]byte(longest)))
	if told(l) != longest || told(opened(t, d, "a", 1)) != longest {
		t.Error("lost")
	}
}

// P5.2: ErrFull unless there are two next numbers, ahead of all: nothing is changed, but the log is read only.
func TestTurnNoNextNumbers(t *testing.T) {
	for _, name := range []string{"a.2147483646", "a.s2147483646", "a.2147483647", "a.s2147483647"} {
		d, l := turnable(t)
		put(t, d, name, "")
		before, changes := listing(d), d.Changes()
		expect(t, "Lay", api.OK, d.Lay(0, api.ErrDisk))
		expect(t, name, api.ErrFull, l.Turn([]byte("turned")))
		expectListing(t, name, d, before)
		expectLooks(t, name, l, "snap|x|y; 2, 1 last; 2 to 10; read only")
		if d.Changes() != changes {
			t.Error(name, d.Changes()-changes)
		}
		expect(t, "read only", api.ErrReadOnly, l.Append(nil), l.Sync(), l.Turn([]byte("turned")))
		d.Fuse(0)
		expect(t, "the fault is there yet", api.ErrDisk, d.SyncDir())
		expect(t, "without power", api.ErrDead, d.SyncDir())
	}
	d, l := turnable(t)
	put(t, d, "a.s2147483645", "")
	expect(t, "just two", api.OK, l.Turn([]byte("turned")))
	expectLooks(t, "just two", opened(t, d, "a", 99), "turned; 0, 0 last; 1 to 2147483647")
	expect(t, "no more", api.ErrFull, l.Turn(nil))
	// Without power, too.
	d, l = turnable(t)
	put(t, d, "a.2147483646", "")
	d.Fuse(0)
	expect(t, "no power", api.ErrDead, d.SyncDir())
	expect(t, "no numbers, no power", api.ErrFull, l.Turn(nil))
}

// P5.2: a fault of each kind at each change of Append, Sync and Turn: refused so, and read only; the next opening has what lasted, or what was to be.
func TestChangeFaults(t *testing.T) {
	for what, c := range map[string]struct {
		do      func(l *Log) api.Errno
		changes int
		may     string
	}{
		"Append":              {func(l *Log) api.Errno { return l.Append([]byte("z")) }, 1, "snap|x|y|z"},
		"Append that goes on": {func(l *Log) api.Errno { return l.Append(make([]byte, 90)) }, 4, "snap|x|y|" + string(make([]byte, 90))},
		"Sync":                {func(l *Log) api.Errno { return l.Sync() }, 1, "snap|x|y"},
		"Turn":                {func(l *Log) api.Errno { return l.Turn([]byte("turned")) }, 17, "turned"},
	} {
		for _, fault := range []api.Errno{api.ErrFull, api.ErrDisk} {
			for n := range c.changes {
				d, l := turnable(t)
				expect(t, "Lay", api.OK, d.Lay(n, fault))
				expect(t, what, fault, c.do(l))
				expectLooks(t, what, l, "snap|x|y; 2, 1 last; 2 to 10; read only")
				expectReadOnly(t, what, d, l)
				x := opened(t, d, "a", 99)
				if s := told(x); s != "snap|x|y" && s != c.may {
					t.Errorf("%s: %q", what, s)
				}
				was := told(x)
				appended(t, x, "!")
				expect(t, "Sync", api.OK, x.Sync())
				if s := told(opened(t, d.Crash(), "a", 99)); s != was+"|!" {
					t.Errorf("%s: %q; want %q and one more", what, s, was)
				}
			}
			d, l := turnable(t)
			expect(t, "Lay", api.OK, d.Lay(c.changes, fault))
			expect(t, what, api.OK, c.do(l))
		}
	}
}

// expectReadOnly wants that a log takes no change any more, and makes none; ErrLong comes ahead.
func expectReadOnly(t *testing.T, what string, d *vfs.Disk, l *Log) {
	t.Helper()
	before, changes, was := listing(d), d.Changes(), looks(l)
	expect(t, what, api.ErrReadOnly, l.Append([]byte("q")), l.Append(nil), l.Append(make([]byte, api.MaxRecord)), l.Sync(), l.Turn([]byte("q")), l.Turn(make([]byte, api.MaxRecord)))
	long := make([]byte, api.MaxRecord+1)
	expect(t, what, api.ErrLong, l.Append(long), l.Turn(long))
	expectListing(t, what, d, before)
	expectLooks(t, what, l, was)
	if d.Changes() != changes || !l.ReadOnly() {
		t.Error(what, d.Changes()-changes, l.ReadOnly())
	}
}

// P5.2: layer 4's other errors: a segment that is gone, a disk without room.
func TestOtherErrors(t *testing.T) {
	for what, do := range map[string]func(l *Log) api.Errno{
		"Append": func(l *Log) api.Errno { return l.Append(nil) },
		"Sync":   func(l *Log) api.Errno { return l.Sync() },
		"Turn":   func(l *Log) api.Errno { return l.Turn(nil) },
	} {
		d := made(t, 1000)
		l := opened(t, d, "a", 99)
		expect(t, "Remove", api.OK, d.Remove("a.1"))
		expect(t, what, api.ErrNone, do(l))
		expectReadOnly(t, what, d, l)
	}
	d := made(t, 60)
	l := opened(t, d, "a", 99)
	expect(t, "without room", api.ErrFull, l.Append(make([]byte, 29)))
	expectReadOnly(t, "without room", d, l)
	l = opened(t, d, "a", 99)
	expect(t, "just room", api.OK, l.Append(make([]byte, 28)))
	expect(t, "no room for a snapshot", api.ErrFull, l.Turn(nil))
	expectReadOnly(t, "no room for a snapshot", d, l)
	d = made(t, 24+8+8+23)
	l = opened(t, d, "a", 99)
	appended(t, l, "")
	expect(t, "no room for a manifest", api.ErrFull, l.Turn(nil))
	expectLooks(t, "no room for a manifest", opened(t, d, "a", 99), "-|; 1, 1 last; 2 to 3")
}

// P5.2: 64 files: a log that can't go on.
func TestManySegments(t *testing.T) {
	d := made(t, 9999)
	l := opened(t, d, "a", 1)
	for range api.MaxFiles - 2 {
		appended(t, l, "x")
	}
	expect(t, "the 65th file", api.ErrFull, l.Append([]byte("x")))
	if !l.ReadOnly() || l.Segments() != 63 || l.Len() != 62 || l.Synced() != 62 {
		t.Error(looks(l))
	}
	l = opened(t, d, "a", 1)
	if l.Segments() != 63 || l.Len() != 63 && l.Len() != 62 {
		t.Error(looks(l))
	}
	expect(t, "no file for a snapshot", api.ErrFull, l.Turn(nil))
}

// Rules: what is handed in is not changed, and not kept.
func TestHandedIn(t *testing.T) {
	d := made(t, 1000)
	l := opened(t, d, "a", 99)
	b := []byte("abcd")
	expect(t, "Append", api.OK, l.Append(b))
	copy(b, "XXXX")
	expectLooks(t, "Append", l, "-|abcd; 1, 0 last; 1 to 1")
	s := []byte("snap")
	expect(t, "Turn", api.OK, l.Turn(s))
	if string(s) != "snap" || string(b) != "XXXX" {
		t.Error(s, b)
	}
	copy(s, "YYYY")
	if told(l) != "snap" || told(opened(t, d, "a", 99)) != "snap" {
		t.Error(told(l))
	}
}

// P5.2: nil logs, and zero ones: ErrNil, ahead of ErrLong.
func TestNilChanges(t *testing.T) {
	long := make([]byte, api.MaxRecord+1)
	for _, l := range []*Log{nil, {}} {
		mustPanicNot(t, "nil", func() {
			expect(t, "nil", api.ErrNil, l.Append(nil), l.Append(long), l.Sync(), l.Turn(nil), l.Turn(long))
		})
	}
}
