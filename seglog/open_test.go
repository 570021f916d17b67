package seglog

import (
	"math"
	"strings"
	"testing"

	"landmark/api"
	"landmark/vfs"
)

// The chapter's examples.
func TestExamples(t *testing.T) {
	d := made(t, 1000)
	l := opened(t, d, "a", 99)
	expectLooks(t, "a new disk", l, "-; 0, 0 last; 1 to 1")
	expect(t, "Append, Sync, Append", api.OK, l.Append([]byte("x")), l.Sync(), l.Append([]byte("y")))
	expectLooks(t, "behind a loss of power", opened(t, d.Crash(3), "a", 99), "-|x; 1, 1 last; 1 to 1")
	expect(t, "Turn, Append, Sync", api.OK, l.Turn([]byte("s")), l.Append([]byte("z")), l.Sync())
	expectLooks(t, "opened anew", opened(t, d, "a", 99), "s|z; 1, 1 last; 1 to 3")
}

// P5.1: ErrArg: no disk; names and mosts that may not be; and the edges of those that may.
func TestOpenArg(t *testing.T) {
	d := made(t, 1000)
	expectRefused(t, "no disk", api.ErrArg, nil, "a", 99)
	expectRefused(t, "a zero disk", api.ErrArg, &vfs.Disk{}, "a", 99)
	for _, name := range []string{"", "A", "a b", "a/b", "a_", "\x00", "é", strings.Repeat("a", 17), strings.Repeat("a", 28), strings.Repeat("a", 33), strings.Repeat("a", 999)} {
		expectRefused(t, "a name that may not be", api.ErrArg, d, name, 99)
	}
	for _, most := range []int{0, -1, 1<<20 + 1, math.MaxInt, math.MinInt} {
		expectRefused(t, "a most that may not be", api.ErrArg, d, "a", most)
	}
	expectListing(t, "refused", d, " +0")
	if d.Changes() != 0 {
		t.Error(d.Changes())
	}
	for _, name := range []string{"a", ".", "-", "9", "man", "a.1", "abcdefghijklmnop", "................"} {
		for _, most := range []int{1, 2, 1 << 20} {
			expectLooks(t, name, opened(t, made(t, 1000), name, most), "-; 0, 0 last; 1 to 1")
		}
	}
}

// P5.1: ErrArg comes ahead of ErrCorrupt, and of the disk's errors.
func TestOpenOrder(t *testing.T) {
	d := holding(t, "a.man", "?")
	expect(t, "Lay", api.OK, d.Lay(0, api.ErrDisk))
	d.Fuse(0)
	expectRefused(t, "a name", api.ErrArg, d, "A", 9)
	expectRefused(t, "a most", api.ErrArg, d, "a", 0)
	expectRefused(t, "ErrCorrupt, ahead of the fault", api.ErrCorrupt, d, "a", 9)
	expectRefused(t, "the fault", api.ErrDisk, d, "b", 9)
	expectRefused(t, "ErrDead", api.ErrDead, d, "b", 9)
	expectRefused(t, "a name, without power", api.ErrArg, d, "", 9)
	expectRefused(t, "ErrCorrupt, without power", api.ErrCorrupt, d, "a", 9)
}

// P5.1: where there is no manifest: a segment, then a manifest, change by change.
func TestOpenNew(t *testing.T) {
	for n, want := range []string{
		" +0",
		"a.1:0/0 +1",
		"a.1:0/0 a.new:24/0 +2",
		"a.1:0/0 a.new:24/0 +2",
		"a.1:0/0 a.new:24/24 +2",
		"a.1:0/0 a.new:24/24 +0",
		"a.1:0/0 a.man:24/24 +1",
		"a.1:0/0 a.man:24/24 +0",
	} {
		d := made(t, 1000)
		d.Fuse(n)
		l, e := Open(d, "a", 9)
		if n < 7 && (l != nil || e != api.ErrDead) || n == 7 && (e != api.OK || d.Dead()) {
			t.Error(n, e)
		}
		expectListing(t, "Open", d, want)
	}
	d := made(t, 1000)
	opened(t, d, "a", 9)
	if d.Changes() != 7 || read(t, d, "a.man") != manifest(0, 1) {
		t.Errorf("%d, %x", d.Changes(), read(t, d, "a.man"))
	}
}

// P5.1: where there is no manifest: the next number is one above the greatest of all segments and snapshots, and these are not told; a file 'new' goes first.
func TestOpenNewBesideOthers(t *testing.T) {
	for _, c := range []struct {
		files []string
		want  string
	}{
		{[]string{"a.7", raw("x"), "a.s3", raw("s")}, "a.7 a.8 a.man a.s3"},
		{[]string{"a.7", raw("x"), "a.s30", raw("s")}, "a.31 a.7 a.man a.s30"},
		{[]string{"a.9", raw("x"), "a.10", "torn"}, "a.10 a.11 a.9 a.man"},
		{[]string{"a.new", manifest(0, 5)}, "a.1 a.man"},
		{[]string{"a.new", "half", "a.1", spoiled("x")}, "a.1 a.2 a.man"},
		{[]string{"b.9", raw("x"), "b.man", "?", "b.s8", "", "aa.7", "", "xa.5", "", "a-6", "", "a", ""}, "a a-6 a.1 a.man aa.7 b.9 b.man b.s8 xa.5"},
		{[]string{"a.0", "", "a.03", "", "a.s0", "", "a.s05", "", "a.s", "", "a.", "", "a.-7", "", "a.1a", "", "a.ss1", "", "a.1.2", "", "a.2147483648", "", "a.s2147483648", "", "a.99999999999999999999", ""},
			"a. a.-7 a.0 a.03 a.1 a.1.2 a.1a a.2147483648 a.99999999999999999999 a.man a.s a.s0 a.s05 a.s2147483648 a.ss1"},
		{[]string{"a.2147483646", raw("x")}, "a.2147483646 a.2147483647 a.man"},
	} {
		d := holding(t, c.files...)
		l := opened(t, d, "a", 9)
		if told(l) != "-" || l.Segments() != 1 || names(d) != c.want {
			t.Errorf("%q: %q, %q; want %q", c.files, looks(l), names(d), c.want)
		}
		expectLooks(t, "opened anew", opened(t, d.Crash(), "a", 9), looks(l))
	}
}

// P5.1: where there is no manifest, and a file 'new': it goes behind the segment's making, ahead of its own.
func TestOpenNewDraft(t *testing.T) {
	for n, want := range []string{
		"a.new:4/4 +0",
		"a.1:0/0 a.new:4/4 +1",
		"a.1:0/0 +2",
		"a.1:0/0 a.new:24/0 +3",
		"a.1:0/0 a.new:24/0 +3",
		"a.1:0/0 a.new:24/24 +3",
		"a.1:0/0 a.new:24/24 +0",
		"a.1:0/0 a.man:24/24 +1",
		"a.1:0/0 a.man:24/24 +0",
	} {
		d := holding(t, "a.new", "half")
		d.Fuse(n)
		if _, e := Open(d, "a", 9); (e == api.OK) != (n == 8) {
			t.Error(n, e)
		}
		expectListing(t, "Open", d, want)
	}
}

// P5.1: ErrFull: no next number, be it a segment's or a snapshot's that is the greatest; nothing is changed then.
func TestOpenNoNextNumber(t *testing.T) {
	for _, name := range []string{"a.2147483647", "a.s2147483647"} {
		d := holding(t, name, "", "a.new", "half")
		before := listing(d)
		expectRefused(t, name, api.ErrFull, d, "a", 9)
		expectListing(t, name, d, before)
		opened(t, d, "b", 9)
		// Where there is a manifest no number is needed.
		put(t, d, "a.man", manifest(0, 1))
		put(t, d, "a.1", raw("x"))
		want := "-|x; 1, 1 last; 1 to 1"
		if name == "a.2147483647" {
			want = "-|x; 1, 1 last; 2 to 2147483647"
		}
		expectLooks(t, name, opened(t, d, "a", 9), want)
	}
}

// P5.1: the disk's own ErrFull: 64 files, and too few bytes of room.
func TestOpenFullDisk(t *testing.T) {
	d := made(t, 23)
	expectRefused(t, "23 bytes", api.ErrFull, d, "a", 9)
	opened(t, made(t, 24), "a", 9)
	d = made(t, 1000)
	for i := range api.MaxFiles - 1 {
		expect(t, "Make", api.OK, d.Make("f"+strings.Repeat("-", i%8)+strings.Repeat(".", i/8)))
	}
	expectRefused(t, "63 other files", api.ErrFull, d, "a", 9)
	expect(t, "Remove", api.OK, d.Remove("f"))
	expectRefused(t, "62 other files, and a segment", api.ErrFull, d, "a", 9)
	expect(t, "Remove", api.OK, d.Remove("f-"), d.Remove("f--"))
	expectLooks(t, "room", opened(t, d, "a", 9), "-; 0, 0 last; 1 to 3")
}

// P5.1: what is told: the snapshot that is named, all segments from the first one on, by rising numbers; all of it as synced.
func TestOpenSays(t *testing.T) {
	for _, c := range []struct {
		files []string
		want  string
	}{
		{[]string{"a.man", manifest(0, 1), "a.1", ""}, "-; 0, 0 last; 1 to 1"},
		{[]string{"a.man", manifest(0, 1), "a.1", raw("x") + raw("") + raw("y")}, "-|x||y; 3, 3 last; 1 to 1"},
		{[]string{"a.man", manifest(4, 5), "a.s4", raw("snap"), "a.5", raw("x")}, "snap|x; 1, 1 last; 1 to 5"},
		{[]string{"a.man", manifest(4, 5), "a.s4", raw(""), "a.5", raw("x")}, "|x; 1, 1 last; 1 to 5"},
		{[]string{"a.man", manifest(9, 5), "a.s9", raw("s"), "a.5", raw("x"), "a.12", raw("y")}, "s|x|y; 2, 2 last; 2 to 12"},
		{[]string{"a.man", manifest(0, 9), "a.9", raw("i"), "a.10", raw("j"), "a.100", raw("k"), "a.11", ""}, "-|i|j|k; 3, 3 last; 4 to 100"},
		// Not named: segments ahead of the first one, other snapshots, whatever they hold.
		{[]string{"a.man", manifest(0, 3), "a.1", spoiled("x"), "a.2", "torn", "a.3", raw("y"), "a.s2", "?", "a.s8", raw("s")}, "-|y; 1, 1 last; 1 to 3"},
		// The first one is gone, another one is there.
		{[]string{"a.man", manifest(0, 3), "a.2", raw("x"), "a.4", raw("y")}, "-|y; 1, 1 last; 1 to 4"},
		{[]string{"a.man", manifest(0, 2147483647), "a.2147483647", raw("x")}, "-|x; 1, 1 last; 1 to 2147483647"},
		{[]string{"a.man", manifest(2147483647, 1), "a.s2147483647", raw("s"), "a.1", raw("x")}, "s|x; 1, 1 last; 1 to 1"},
		// Other files.
		{[]string{"a.man", manifest(0, 1), "a.1", raw("x"), "a.new", "?", "a.02", "?", "a.x", "?", "aa.2", "?", "a.1.2", "?", "a.2147483648", "?", "b.man", "?"}, "-|x; 1, 1 last; 1 to 1"},
	} {
		d := holding(t, c.files...)
		before := names(d)
		expectLooks(t, c.want, opened(t, d, "a", 9), c.want)
		if names(d) != before {
			t.Errorf("%q; want %q", names(d), before)
		}
	}
}

// P5.1: a torn rest of the last segment is cut off, that is synced, the directory is synced.
func TestOpenTorn(t *testing.T) {
	for _, rest := range []string{"\x00", raw("y")[:8], raw("yyy")[:10], "\xff\xff\xff\xff????", "no record"} {
		for n, want := range []string{"torn", "a.1:9/9", "a.1:9/9", "a.1:9/9"} {
			d := holding(t, "a.man", manifest(0, 1), "a.1", raw("x")+rest)
			before := listing(d)
			d.Fuse(n)
			l, e := Open(d, "a", 9)
			if n < 3 && (l != nil || e != api.ErrDead) || n == 3 && (e != api.OK || d.Dead()) {
				t.Error(n, e)
			}
			if want == "torn" {
				expectListing(t, rest, d, before)
			} else {
				expectListing(t, rest, d, want+" a.man:24/24 +0")
			}
		}
	}
	d := holding(t, "a.man", manifest(0, 1), "a.1", raw("x")+"torn")
	l := opened(t, d, "a", 99)
	appended(t, l, "y")
	expectLooks(t, "records behind", l, "-|x|y; 2, 1 last; 1 to 1")
	expectLooks(t, "opened anew", opened(t, d, "a", 99), "-|x|y; 2, 2 last; 1 to 1")
}

// P5.1: a torn rest is all that there is.
func TestOpenAllTorn(t *testing.T) {
	d := holding(t, "a.man", manifest(0, 1), "a.1", raw("x"), "a.2", raw("y")[:8])
	expectLooks(t, "all torn", opened(t, d, "a", 9), "-|x; 1, 1 last; 2 to 2")
	expectListing(t, "all torn", d, "a.1:9/9 a.2:0/0 a.man:24/24 +0")
}

// P5.1: what is loose yet lasts behind an opening: the last segment, and the directory.
func TestOpenSyncs(t *testing.T) {
	for n, want := range []string{"a.1:9/0 a.man:24/24 +1", "a.1:9/9 a.man:24/24 +1", "a.1:9/9 a.man:24/24 +0"} {
		d := holding(t, "a.man", manifest(0, 1))
		expect(t, "a segment, loose", api.OK, d.Make("a.1"), d.Append("a.1", []byte(raw("x"))))
		d.Fuse(n)
		_, e := Open(d, "a", 9)
		if (e == api.OK) != (n == 2) || d.Dead() != (n < 2) {
			t.Error(n, e)
		}
		expectListing(t, "Open", d, want)
		if n == 2 {
			expectLooks(t, "it lasts", opened(t, d.Crash(), "a", 9), "-|x; 1, 1 last; 1 to 1")
		}
	}
	d := holding(t, "a.man", manifest(0, 1), "a.1", raw("x"))
	before := d.Changes()
	opened(t, d, "a", 9)
	if d.Changes() != before+2 {
		t.Error(d.Changes() - before)
	}
}

// corrupts are files of a log a that is not opened.
func corrupts() map[string][]string {
	one := []string{"a.1", raw("x")}
	with := func(files ...string) []string { return append(files, one...) }
	return map[string][]string{
		"a manifest of no bytes":             with("a.man", ""),
		"a manifest of 15 bytes":             with("a.man", raw(pair(0, 1)[:15])),
		"a manifest of 17 bytes":             with("a.man", raw(pair(0, 1)+"\x00")),
		"a manifest of 24 bytes":             with("a.man", raw(pair(0, 1)+pair(0, 1)[:8])),
		"a manifest that is a torn record":   with("a.man", manifest(0, 1)[:23]),
		"a manifest with a torn rest":        with("a.man", manifest(0, 1)+"\x00"),
		"two manifests":                      with("a.man", manifest(0, 1)+manifest(0, 1)),
		"a manifest with a wrong one behind": with("a.man", manifest(0, 1)+spoiled("")),
		"a manifest with a wrong sum":        with("a.man", spoiled(pair(0, 1))),
		"a manifest without a sum":           with("a.man", pair(0, 1)),
		"first segment 0":                    with("a.man", manifest(0, 0)),
		"first segment 2^31":                 with("a.man", manifest(0, 1<<31), "a.2147483648", raw("x")),
		"first segment 2^32 + 1":             with("a.man", manifest(0, 1<<32+1)),
		"first segment 2^63 + 1":             with("a.man", manifest(0, 1<<63+1)),
		"a first segment that is not there":  with("a.man", manifest(0, 2)),
		"a snapshot that is not there":       with("a.man", manifest(1, 1)),
		"another snapshot that is there":     with("a.man", manifest(2, 1), "a.s1", raw("s"), "a.s3", raw("s")),
		"snapshot 2^31":                      with("a.man", manifest(1<<31, 1), "a.s2147483648", raw("s")),
		"snapshot 2^32":                      with("a.man", manifest(1<<32, 1)),
		"snapshot 2^64 - 1":                  with("a.man", manifest(1<<64-1, 1)),
		"a snapshot of no bytes":             with("a.man", manifest(3, 1), "a.s3", ""),
		"a snapshot that is torn":            with("a.man", manifest(3, 1), "a.s3", raw("snap")[:11]),
		"a snapshot with a torn rest":        with("a.man", manifest(3, 1), "a.s3", raw("snap")+"\x00"),
		"a snapshot of two records":          with("a.man", manifest(3, 1), "a.s3", raw("snap")+raw("")),
		"a snapshot with a wrong sum":        with("a.man", manifest(3, 1), "a.s3", spoiled("snap")),
		"a snapshot that is just bytes":      with("a.man", manifest(3, 1), "a.s3", "snap"),
		"a snapshot that is a segment":       with("a.man", manifest(1, 1)),
		"no segment":                         {"a.man", manifest(0, 1)},
		"no segment of a name that may be":   {"a.man", manifest(0, 1), "a.01", raw("x"), "a.s1", raw("x"), "a.x", raw("x"), "b.1", raw("x")},
		"a first record with a wrong sum":    {"a.man", manifest(0, 1), "a.1", spoiled("x") + raw("y") + raw("z")},
		"a middle record with a wrong sum":   {"a.man", manifest(0, 1), "a.1", raw("x") + spoiled("y") + raw("z")},
		"a last record with a wrong sum":     {"a.man", manifest(0, 1), "a.1", raw("x") + raw("y") + spoiled("z")},
		"a wrong sum, and a torn rest":       {"a.man", manifest(0, 1), "a.1", raw("x") + spoiled("y") + "\x00"},
		"a wrong sum in a segment ahead":     {"a.man", manifest(0, 1), "a.1", spoiled("x"), "a.2", raw("y")},
		"a wrong sum in a middle segment":    {"a.man", manifest(0, 1), "a.1", raw("x"), "a.2", spoiled("x"), "a.3", raw("y")},
		"a wrong sum in the last segment":    {"a.man", manifest(0, 1), "a.1", raw("x"), "a.2", spoiled("y")},
		"a torn rest ahead of the last":      {"a.man", manifest(0, 1), "a.1", raw("x") + "\x00", "a.2", raw("y")},
		"a torn rest ahead of an empty one":  {"a.man", manifest(0, 1), "a.1", raw("x") + "\x00", "a.2", ""},
		"a torn rest in the middle":          {"a.man", manifest(0, 1), "a.1", raw("x"), "a.2", raw("y")[:8], "a.3", raw("z")},
		"a torn rest ahead of a torn rest":   {"a.man", manifest(0, 1), "a.1", raw("x")[:8], "a.2", raw("y")[:8]},
		"a torn rest ahead of the tenth":     {"a.man", manifest(0, 9), "a.9", raw("x")[:8], "a.10", raw("y")},
		"a right one that is but a draft":    {"a.man", "", "a.new", manifest(0, 1), "a.1", raw("x")},
	}
}

// P5.1: ErrCorrupt, ahead of the disk's errors; the disk stays as it was.
func TestOpenCorrupt(t *testing.T) {
	for what, files := range corrupts() {
		d := holding(t, files...)
		before, changes := listing(d), d.Changes()
		expectRefused(t, what, api.ErrCorrupt, d, "a", 9)
		expect(t, "Lay", api.OK, d.Lay(0, api.ErrDisk))
		expectRefused(t, what+", with a fault", api.ErrCorrupt, d, "a", 9)
		expectListing(t, what, d, before)
		if d.Changes() != changes {
			t.Error(what, d.Changes()-changes)
		}
		opened(t, holding(t, append(files, "c.man", manifest(0, 1), "c.1", raw("x"))...), "c", 9)
	}
}

// P5.1: two logs on one disk, one's name the beginning of the other's: each one says its own.
func TestOpenTwoLogs(t *testing.T) {
	d := made(t, 9999)
	one, two, three := opened(t, d, "a", 20), opened(t, d, "a.s", 20), opened(t, d, "a.1", 20)
	appended(t, one, "1", "1", "1", "1")
	appended(t, two, "2", "2", "2")
	appended(t, three, "3")
	expect(t, "Turn", api.OK, one.Turn([]byte("s1")), three.Turn([]byte("s3")), one.Turn([]byte("t1")))
	appended(t, one, "4")
	appended(t, three, "5")
	for name, want := range map[string]string{"a": "t1|4", "a.s": "-|2|2|2", "a.1": "s3|5"} {
		if l := opened(t, d, name, 20); told(l) != want {
			t.Errorf("%s: %q; want %q", name, told(l), want)
		}
	}
	if names(d) != "a.1.3 a.1.man a.1.s2 a.6 a.man a.s.1 a.s.2 a.s.man a.s5" {
		t.Error(names(d))
	}
}

// P5.1: faults of each kind at each change of an opening: refused so; and the next opening finds all, or begins anew.
func TestOpenFaults(t *testing.T) {
	for what, c := range map[string]struct {
		files   []string
		changes int
		want    string
	}{
		"new":             {nil, 7, "-"},
		"new, with draft": {[]string{"a.new", "half"}, 8, "-"},
		"there":           {[]string{"a.man", manifest(2, 3), "a.s2", raw("s"), "a.3", raw("x")}, 2, "s|x"},
		"there, torn":     {[]string{"a.man", manifest(2, 3), "a.s2", raw("s"), "a.3", raw("x") + "torn"}, 3, "s|x"},
	} {
		for _, fault := range []api.Errno{api.ErrFull, api.ErrDisk} {
			for n := range c.changes {
				d := holding(t, c.files...)
				expect(t, "Lay", api.OK, d.Lay(n, fault))
				expectRefused(t, what, fault, d, "a", 99)
				l := opened(t, d, "a", 99)
				appended(t, l, "y")
				expect(t, "Sync", api.OK, l.Sync())
				if told(l) != c.want+"|y" || told(opened(t, d.Crash(), "a", 99)) != c.want+"|y" {
					t.Error(what, fault, n, told(l))
				}
			}
			d := holding(t, c.files...)
			expect(t, "Lay", api.OK, d.Lay(c.changes, fault))
			opened(t, d, "a", 99)
		}
	}
}
