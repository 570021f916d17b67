package vfs

import (
	"bytes"
	"math"
	"slices"
	"strings"
	"testing"

	"landmark/api"
)

// made is a new disk.
func made(t *testing.T, capacity int) *Disk {
	t.Helper()
	d, e := New(capacity)
	if d == nil || e != api.OK {
		t.Fatalf("New(%d): %v", capacity, e)
	}
	return d
}

// expect wants these answers, one by one.
func expect(t *testing.T, what string, want api.Errno, got ...api.Errno) {
	t.Helper()
	for i, e := range got {
		if e != want {
			t.Errorf("%s, answer %d: %v; want %v", what, i, e, want)
		}
	}
}

// expectFile wants a file's bytes, and how many of them last.
func expectFile(t *testing.T, d *Disk, name, want string, lasts int) {
	t.Helper()
	b, e := d.Read(name)
	n, f := d.Lasts(name)
	if string(b) != want || n != lasts || e != api.OK || f != api.OK {
		t.Errorf("%s: %q, %d of it last, %v, %v; want %q, %d", name, b, n, e, f, want, lasts)
	}
}

// expectNoFile wants that there is no such file.
func expectNoFile(t *testing.T, d *Disk, name string) {
	t.Helper()
	b, e := d.Read(name)
	n, f := d.Lasts(name)
	if len(b) != 0 || n != 0 || e != api.ErrNone || f != api.ErrNone {
		t.Errorf("%s: %q, %d, %v, %v; want no such file", name, b, n, e, f)
	}
}

// listing is what Files goes over, as a text.
func listing(d *Disk) string {
	var all []string
	for name, n := range d.Files() {
		all = append(all, name+":"+strings.Repeat("|", n))
	}
	return strings.Join(all, " ")
}

func expectListing(t *testing.T, d *Disk, want string) {
	t.Helper()
	if s := listing(d); s != want {
		t.Errorf("the files are %q; want %q", s, want)
	}
}

// P4.1: capacities from 1 to MaxDisk; a new disk is without files.
func TestNew(t *testing.T) {
	for _, capacity := range []int{math.MinInt, -1, 0, api.MaxDisk + 1, math.MaxInt} {
		if d, e := New(capacity); d != nil || e != api.ErrArg {
			t.Errorf("New(%d): %v, %v", capacity, d, e)
		}
	}
	for _, capacity := range []int{1, 2, 99, api.MaxDisk - 1, api.MaxDisk} {
		d := made(t, capacity)
		expectListing(t, d, "")
		if d.Room() != capacity || d.Pending() != 0 || d.Changes() != 0 || d.Dead() {
			t.Errorf("New(%d): %d %d %d %v", capacity, d.Room(), d.Pending(), d.Changes(), d.Dead())
		}
		expectListing(t, d.Crash(1, 1), "")
	}
	if api.MaxDisk != 1<<24 {
		t.Error(api.MaxDisk)
	}
}

// P4.1: a new disk has neither fuse nor fault.
func TestNewGoesOn(t *testing.T) {
	d := made(t, 9)
	expect(t, "a new disk", api.OK, d.Make("a"))
	for range 100 {
		expect(t, "a new disk", api.OK, d.SyncDir())
	}
}

// P4.1: names by how many bytes they have.
func TestMayNameLengths(t *testing.T) {
	for n := range 100 {
		if may := MayName(strings.Repeat("a", n)); may != (1 <= n && n <= 32) {
			t.Errorf("a name of %d bytes: %v", n, may)
		}
	}
	if api.MaxFile != 32 {
		t.Error(api.MaxFile)
	}
}

// P4.1: of all bytes just letters a to z, digits, '.' and '-' may be in a name, wherever they stand.
func TestMayNameSigns(t *testing.T) {
	const good = "abcdefghijklmnopqrstuvwxyz0123456789.-"
	for i := range 256 {
		sign := string([]byte{byte(i)})
		want := strings.Contains(good, sign)
		for _, name := range []string{sign, "a" + sign, sign + "a", "log" + sign + "1", sign + sign, strings.Repeat("a", 31) + sign} {
			if MayName(name) != want {
				t.Errorf("MayName(%q) is %v", name, !want)
			}
		}
	}
	for _, name := range []string{".", "..", "-", "log.man", "log.s12", "log.7", "0", good[:32]} {
		if !MayName(name) {
			t.Errorf("MayName(%q) is false", name)
		}
	}
	for _, name := range []string{"", "A", "log/man", "log man", "log_man", "é", "日", "a\x00", "a\n", " a", "a*", "lógman"} {
		if MayName(name) {
			t.Errorf("MayName(%q) is true", name)
		}
	}
}

// P4.3: Read tells what the chapter's errors say, in their order, and nothing beside them; it is no change.
func TestReadErrors(t *testing.T) {
	d := made(t, 9)
	d.Make("a")
	for name, want := range map[string]api.Errno{"": api.ErrArg, "A": api.ErrArg, strings.Repeat("a", 33): api.ErrArg, strings.Repeat("a", 32): api.ErrNone, "b": api.ErrNone, "a": api.OK} {
		b, e := d.Read(name)
		n, f := d.Lasts(name)
		if len(b) != 0 || n != 0 || e != want || f != want {
			t.Errorf("%q: %v %d %v %v; want %v", name, b, n, e, f, want)
		}
	}
	if d.Changes() != 1 {
		t.Error(d.Changes())
	}
}

// P4.3: Lasts is how many bytes last, not how many there are.
func TestLasts(t *testing.T) {
	d := made(t, 9)
	d.Make("a")
	expectFile(t, d, "a", "", 0)
	d.Append("a", []byte("xyz"))
	expectFile(t, d, "a", "xyz", 0)
	d.Sync("a")
	expectFile(t, d, "a", "xyz", 3)
	d.Append("a", []byte("uv"))
	expectFile(t, d, "a", "xyzuv", 3)
}

// P4.3: what is answered, and what is handed in, shares no memory with the disk.
func TestSharesNothing(t *testing.T) {
	d := made(t, 99)
	d.Make("a")
	in := []byte("xyz")
	d.Append("a", in)
	in[0] = '!'
	expectFile(t, d, "a", "xyz", 0)
	first, _ := d.Read("a")
	second, _ := d.Read("a")
	first[1] = '!'
	_ = append(first[:1], "!!!!"...)
	expectFile(t, d, "a", "xyz", 0)
	if string(second) != "xyz" || string(in) != "!yz" {
		t.Errorf("%q %q", second, in)
	}
	d.Append("a", second[:1:3])
	if string(second) != "xyz" {
		t.Errorf("what was handed in was changed: %q", second)
	}
	old, _ := d.Read("a")
	d.Cut("a", 1)
	d.Append("a", []byte("99"))
	if string(old) != "xyzx" {
		t.Errorf("what was told was changed: %q", old)
	}
	picks := []int{1, 2}
	d.Crash(picks...)
	if !slices.Equal(picks, []int{1, 2}) {
		t.Error("picks were changed:", picks)
	}
}

// P4.3: Files goes by rising names, each with how many bytes it has.
func TestFilesByName(t *testing.T) {
	d := made(t, 99)
	for i, name := range []string{"b", "a", "z", "a-", "a.", "a0", "10", "9", "-", ".", "aa", "ab.c"} {
		expect(t, name, api.OK, d.Make(name), d.Append(name, bytes.Repeat([]byte{1}, i%3)))
	}
	expectListing(t, d, "-:|| .: 10: 9:| a:| a-: a.:| a0:|| aa:| ab.c:|| b: z:||")
}

// P4.3: Files may be left at any time, and gone through as often as one likes.
func TestFilesLeft(t *testing.T) {
	d := made(t, 99)
	for _, name := range []string{"a", "b", "c"} {
		d.Make(name)
	}
	all := d.Files()
	for stop := range 4 {
		var seen []string
		for name := range all {
			if len(seen) == stop {
				break
			}
			seen = append(seen, name)
		}
		if !slices.Equal(seen, []string{"a", "b", "c"}[:stop]) {
			t.Error(stop, seen)
		}
	}
	for range 2 {
		n := 0
		for range all {
			n++
		}
		if n != 3 {
			t.Error(n)
		}
	}
	calls := 0
	all(func(string, int) bool { calls++; return false })
	if calls != 1 {
		t.Error("it goes on behind its end:", calls)
	}
}

// P4.3: Files goes over what was there when it was called, whatever the disk does since, and meanwhile.
func TestFilesWhileChanging(t *testing.T) {
	d := made(t, 99)
	d.Make("a")
	d.Append("a", []byte("xy"))
	d.Make("c")
	all := d.Files()
	d.Append("a", []byte("z"))
	d.Make("b")
	d.Remove("c")
	var seen []string
	for name, n := range all {
		seen = append(seen, name+":"+strings.Repeat("|", n))
		d.Make("d")
		d.Remove("a")
	}
	if got := strings.Join(seen, " "); got != "a:|| c:" {
		t.Error(got)
	}
	expectListing(t, d, "b: d:")
	empty := made(t, 9).Files()
	for name := range empty {
		t.Error(name)
	}
}

// P4.3: Pending counts makes, renames, removes since the last SyncDir, and nothing else.
func TestPending(t *testing.T) {
	d := made(t, 99)
	want := func(n int) {
		t.Helper()
		if d.Pending() != n {
			t.Errorf("Pending is %d; want %d", d.Pending(), n)
		}
	}
	d.Make("a")
	d.Make("b")
	want(2)
	d.Append("a", []byte("xyz"))
	d.Sync("a")
	d.Cut("a", 1)
	want(2)
	d.Rename("a", "c")
	d.Rename("c", "c")
	d.Remove("b")
	want(5)
	d.Make("c")
	d.Remove("x")
	d.Rename("x", "y")
	want(5)
	d.SyncDir()
	want(0)
	d.Remove("c")
	want(1)
}

// P4.3: Room is what the capacity leaves beside all files that are there.
func TestRoom(t *testing.T) {
	d := made(t, 10)
	want := func(n int) {
		t.Helper()
		if d.Room() != n {
			t.Errorf("Room is %d; want %d", d.Room(), n)
		}
	}
	d.Make("a")
	d.Make("b")
	want(10)
	d.Append("a", []byte("xyz"))
	d.Append("b", []byte("uv"))
	want(5)
	d.Append("a", []byte("123456"))
	want(5)
	d.Sync("a")
	d.SyncDir()
	d.Append("a", []byte("12345"))
	want(0)
	d.Cut("a", 1)
	want(7)
	d.Rename("b", "a")
	want(8)
	d.Remove("a")
	want(10)
}

// P4.3: Room is never below 0, though a loss of power brings what was removed back beside what came since.
func TestRoomBeyondCapacity(t *testing.T) {
	d := made(t, 4)
	expect(t, "till the first is full", api.OK, d.Make("a"), d.Append("a", []byte("1234")), d.Sync("a"), d.SyncDir())
	expect(t, "the second", api.OK, d.Remove("a"), d.Make("b"), d.Append("b", []byte("567")))
	c := d.Crash(0, 1, 3)
	expectFile(t, c, "a", "1234", 4)
	expectFile(t, c, "b", "567", 3)
	if c.Room() != 0 {
		t.Error(c.Room())
	}
	expect(t, "one more", api.ErrFull, c.Append("b", []byte("8")))
	expect(t, "none more", api.OK, c.Append("b", nil))
	expect(t, "cut", api.OK, c.Cut("a", 0))
	if c.Room() != 1 {
		t.Error(c.Room())
	}
	expect(t, "one more, now", api.OK, c.Append("b", []byte("8")))
}

// P4.3: Changes counts what was done, each time, and nothing that was refused for another reason than a fault and the fuse's end.
func TestChanges(t *testing.T) {
	d := made(t, 5)
	d.Make("a")
	steps := []func() api.Errno{
		func() api.Errno { return d.Make("b") },
		func() api.Errno { return d.Append("a", []byte("xy")) },
		func() api.Errno { return d.Append("a", nil) },
		func() api.Errno { return d.Sync("a") },
		func() api.Errno { return d.Cut("a", 2) },
		func() api.Errno { return d.Rename("a", "a") },
		func() api.Errno { return d.Rename("a", "c") },
		func() api.Errno { return d.Remove("c") },
		func() api.Errno { return d.SyncDir() },
		func() api.Errno { return d.SyncDir() },
	}
	for i, step := range steps {
		expect(t, "a step", api.OK, step())
		if d.Changes() != i+2 {
			t.Errorf("behind step %d Changes is %d", i, d.Changes())
		}
	}
	before := d.Changes()
	d.Make("b")
	d.Make("")
	d.Append("b", make([]byte, 6))
	d.Append("x", nil)
	d.Sync("x")
	d.Cut("b", 1)
	d.Cut("b", -1)
	d.Rename("x", "y")
	d.Rename("b", "")
	d.Remove("x")
	d.Read("b")
	d.Fuse(9)
	d.Lay(9, api.ErrDisk)
	d.Crash()
	d.Copy()
	if d.Changes() != before {
		t.Error(d.Changes(), before)
	}
}

// noDisks are a nil disk, and a zero one.
func noDisks() []*Disk { return []*Disk{nil, {}, new(Disk)} }

// P4.2, P4.3, P4.4: of a nil disk, and a zero one: ErrNil, ahead of all, and nothing, 0, false.
func TestNoDisk(t *testing.T) {
	for _, d := range noDisks() {
		for range 2 {
			for _, name := range []string{"a", "", "A"} {
				expect(t, "changes", api.ErrNil, d.Make(name), d.Append(name, nil), d.Append(name, []byte("x")), d.Sync(name), d.Cut(name, 0), d.Cut(name, -1), d.Rename(name, name), d.Rename(name, ""), d.Remove(name), d.SyncDir())
				b, e := d.Read(name)
				n, f := d.Lasts(name)
				expect(t, "looks", api.ErrNil, e, f)
				if len(b) != 0 || n != 0 {
					t.Error(b, n)
				}
			}
			expect(t, "Lay", api.ErrNil, d.Lay(0, api.ErrFull), d.Lay(0, api.ErrDisk), d.Lay(-1, api.OK))
			d.Fuse(0)
			d.Fuse(-1)
			expectListing(t, d, "")
			if d.Pending() != 0 || d.Room() != 0 || d.Dead() || d.Changes() != 0 {
				t.Error(d.Pending(), d.Room(), d.Dead(), d.Changes())
			}
			if d.Crash() != nil || d.Crash(1, 2) != nil || d.Copy() != nil {
				t.Error("something of nothing")
			}
		}
	}
}
