package seglog

import (
	"fmt"
	"math/rand/v2"
	"slices"
	"strings"
	"testing"

	"landmark/api"
	"landmark/vfs"
)

// life is what a log was told, and what of it must last: its last snapshot, its records, how many of these last, and what else may be found behind a change that was refused.
type life struct {
	snapshot string
	records  []string
	synced   int
	others   []string
	count    int
}

func telling(snapshot string, records []string) string {
	return strings.Join(append([]string{snapshot}, records...), "|")
}

// may is all that may be found.
func (x *life) may() []string {
	all := slices.Clone(x.others)
	for n := x.synced; n <= len(x.records); n++ {
		all = append(all, telling(x.snapshot, x.records[:n]))
	}
	return all
}

// text is a new record, or a new snapshot: no two are the same.
func (x *life) text() string {
	x.count++
	return strings.Repeat("r", x.count%4) + fmt.Sprint(x.count)
}

// act does one thing: a appends, s syncs, t turns, o opens anew. It tells whether it was done.
func (x *life) act(t *testing.T, d *vfs.Disk, l *Log, what rune) (*Log, bool) {
	t.Helper()
	e := api.OK
	switch what {
	case 'a':
		b := x.text()
		if e = l.Append([]byte(b)); e == api.OK {
			x.records = append(x.records, b)
			x.synced = max(x.synced, l.Synced())
		} else {
			x.others = append(x.others, telling(x.snapshot, append(slices.Clone(x.records), b)))
		}
	case 's':
		if e = l.Sync(); e == api.OK {
			x.synced = len(x.records)
		}
	case 't':
		s := x.text()
		if e = l.Turn([]byte(s)); e == api.OK {
			x.snapshot, x.records, x.synced = s, nil, 0
		} else {
			x.others = append(x.others, s)
		}
	case 'o':
		var anew *Log
		if anew, e = Open(d, "a", 30); e == api.OK {
			l = anew
			x.found(t, "opened anew", l)
		}
	}
	if e != api.OK && what != 'o' && !l.ReadOnly() {
		t.Errorf("%c: %v, but not read only", what, e)
	}
	return l, e == api.OK
}

// found wants that a log that was opened is what may be; it is that from then on.
func (x *life) found(t *testing.T, what string, l *Log) {
	t.Helper()
	got := told(l)
	if !slices.Contains(x.may(), got) {
		t.Errorf("%s: %q; want one of %q", what, got, x.may())
	}
	if l.Synced() != l.Len() || l.ReadOnly() {
		t.Errorf("%s: %q", what, looks(l))
	}
	parts := strings.Split(got, "|")
	x.snapshot, x.records, x.synced, x.others = parts[0], parts[1:], len(parts)-1, nil
}

// live does things in turn, up to the first that is refused, and tells how many were done.
func live(t *testing.T, d *vfs.Disk, script string) (*life, int) {
	t.Helper()
	x := &life{snapshot: "-"}
	l, isDone := x.act(t, d, nil, 'o')
	if !isDone {
		return x, 0
	}
	for i, what := range script {
		if l, isDone = x.act(t, d, l, what); !isDone {
			return x, i + 1
		}
		if told(l) != telling(x.snapshot, x.records) || l.Len() != len(x.records) || l.Synced() < x.synced {
			t.Errorf("%s: %q; want %q", script[:i+1], looks(l), telling(x.snapshot, x.records))
		}
	}
	return x, len(script) + 1
}

// picksFor are picks of each kind for a disk's loss of power: each choice of the changes, with few, all and some of the loose bytes.
func picksFor(d *vfs.Disk, source *rand.Rand) [][]int {
	var all [][]int
	for bits := range 1 << min(d.Pending(), 6) {
		var picks []int
		for i := range d.Pending() {
			picks = append(picks, bits>>i)
		}
		all = append(all, picks)
		for range 2 {
			loose := slices.Clone(picks)
			for range 6 {
				loose = append(loose, source.IntN(40))
			}
			all = append(all, loose)
		}
	}
	return all
}

// expectLives wants that a disk that has its power is opened, as what may be, and that the log goes on; and that behind a loss of power in that opening it is so, too.
func expectLives(t *testing.T, what string, was *life, d *vfs.Disk, source *rand.Rand) {
	t.Helper()
	for n := range 9 {
		x, c := *was, d.Copy()
		c.Fuse(n)
		l, e := Open(c, "a", 30)
		if e == api.OK {
			x.found(t, what, l)
		} else if e != api.ErrDead {
			t.Errorf("%s: %v", what, e)
			return
		}
		var picks []int
		for range 12 {
			picks = append(picks, source.IntN(40))
		}
		c = c.Crash(picks...)
		l, e = Open(c, "a", 30)
		if e != api.OK {
			t.Errorf("%s, again: %v", what, e)
			return
		}
		x.found(t, what+", again", l)
		x.count += 100
		for _, act := range "asata" {
			isDone := false
			if l, isDone = x.act(t, c, l, act); !isDone {
				t.Errorf("%s: %c refused", what, act)
			}
		}
		x.found(t, what+", gone on", opened(t, c.Crash(source.IntN(2), source.IntN(2), source.IntN(2), source.IntN(40)), "a", 30))
	}
}

// scripts are what befalls a log: at 30 bytes and more it goes on.
func scripts() []string {
	return []string{"", "a", "as", "aaaaaaa", "asaaasa", "t", "at", "ast", "tt", "taaaaat", "aaaaaaatas", "asaotoaaaoaat", "tasatasaaaaaaata"}
}

// P5.5: a loss of power at each change, whatever lasts.
func TestLossOfPower(t *testing.T) {
	source := rand.New(rand.NewPCG(5, 5))
	for _, script := range scripts() {
		for n := 0; ; n++ {
			d := made(t, 9999)
			d.Fuse(n)
			x, _ := live(t, d, script)
			for _, picks := range picksFor(d, source) {
				expectLives(t, fmt.Sprint(script, " ", n, " ", picks), x, d.Crash(picks...), source)
			}
			if !d.Dead() {
				break
			}
		}
	}
}

// P5.5: a fault of each kind at each change; opened anew at once, and behind a loss of power.
func TestFaultsAnywhere(t *testing.T) {
	source := rand.New(rand.NewPCG(5, 6))
	for _, script := range scripts() {
		for _, fault := range []api.Errno{api.ErrFull, api.ErrDisk} {
			for n := 0; ; n++ {
				d := made(t, 9999)
				expect(t, "Lay", api.OK, d.Lay(n, fault))
				x, done := live(t, d, script)
				what := fmt.Sprint(script, " ", fault, " ", n)
				for _, picks := range picksFor(d, source) {
					expectLives(t, fmt.Sprint(what, " ", picks), x, d.Crash(picks...), source)
				}
				if done > len(script) {
					break
				}
				expectLives(t, what, x, d, source)
			}
		}
	}
}

// P5.5: many lives: what befalls a log by chance, life behind life on one disk.
func TestManyLives(t *testing.T) {
	source := rand.New(rand.NewPCG(5, 7))
	for run := range 300 {
		d := made(t, 400+source.IntN(4000))
		x := &life{snapshot: "-"}
		for range 6 {
			switch source.IntN(4) {
			case 0:
				d.Fuse(source.IntN(60))
			case 1:
				expect(t, "Lay", api.OK, d.Lay(source.IntN(60), []api.Errno{api.ErrFull, api.ErrDisk}[source.IntN(2)]))
			}
			l, isDone := x.act(t, d, nil, 'o')
			for i := 0; isDone && i < 40; i++ {
				l, isDone = x.act(t, d, l, rune("aaaaaasot"[source.IntN(9)]))
			}
			if l != nil && !isDone && told(l) != telling(x.snapshot, x.records) {
				t.Errorf("run %d: %q; want %q", run, told(l), telling(x.snapshot, x.records))
			}
			if d.Dead() || source.IntN(2) == 0 {
				var picks []int
				for range 20 {
					picks = append(picks, source.IntN(40))
				}
				d = d.Crash(picks...)
			}
			if t.Failed() {
				t.Fatal("run", run)
			}
		}
	}
}

// P5.5: each number of bytes that is kept of records that are not synced: a beginning of them.
func TestTornAnywhere(t *testing.T) {
	records := []string{"one", "", "three", "x", "\x00\x00\x00\x00\x00\x00\x00\x00"}
	d := made(t, 1000)
	l := opened(t, d, "a", 999)
	appended(t, l, "first")
	expect(t, "Sync", api.OK, l.Sync())
	appended(t, l, records...)
	ends := []int{0}
	for _, b := range records {
		ends = append(ends, ends[len(ends)-1]+8+len(b))
	}
	whole := 0
	for n := range ends[len(ends)-1] + 1 {
		if whole+1 < len(ends) && n == ends[whole+1] {
			whole++
		}
		c := d.Crash(n)
		x := opened(t, c, "a", 999)
		if want := telling("-|first", records[:whole]); told(x) != want {
			t.Errorf("%d bytes: %q; want %q", n, told(x), want)
		}
		if size := len(read(t, c, "a.1")); size != 13+ends[whole] {
			t.Error(n, "not cut off:", size)
		}
	}
}

// P5.5: segments and snapshots that a loss of power brings back are not told, and the next Turn removes them.
func TestBroughtBack(t *testing.T) {
	d := made(t, 1000)
	l := opened(t, d, "a", 20)
	appended(t, l, "one", "two", "x")
	expect(t, "Turn", api.OK, l.Turn([]byte("s")))
	if names(d) != "a.4 a.man a.s3" {
		t.Error(names(d))
	}
	c := d.Crash()
	if names(c) != "a.1 a.2 a.4 a.man a.s3" {
		t.Error(names(c))
	}
	l = opened(t, c, "a", 20)
	expectLooks(t, "brought back", l, "s; 0, 0 last; 1 to 4")
	appended(t, l, "y")
	expect(t, "Turn", api.OK, l.Turn([]byte("u")))
	if names(c) != "a.6 a.man a.s5" {
		t.Error(names(c))
	}
	expectLooks(t, "all removed", opened(t, c.Crash(1, 1, 1, 1, 1), "a", 20), "u; 0, 0 last; 1 to 6")
}
