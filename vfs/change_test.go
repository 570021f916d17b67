package vfs

import (
	"math"
	"strconv"
	"strings"
	"testing"

	"landmark/api"
)

// withFile is a disk with a file a, all of which lasts, the directory, too.
func withFile(t *testing.T, capacity int, bytes string) *Disk {
	t.Helper()
	d := made(t, capacity)
	expect(t, "a disk with a file", api.OK, d.Make("a"), d.Append("a", []byte(bytes)), d.Sync("a"), d.SyncDir())
	return d
}

// P4.2: Make: the file is there, without bytes; again: ErrExists.
func TestMake(t *testing.T) {
	d := made(t, 9)
	expect(t, "names that may not be", api.ErrArg, d.Make(""), d.Make("A"), d.Make("a/b"), d.Make(strings.Repeat("a", 33)))
	longest := strings.Repeat("z", 32)
	expect(t, "names that may be", api.OK, d.Make("a"), d.Make(longest), d.Make(".-0"))
	expect(t, "again", api.ErrExists, d.Make("a"), d.Make(longest), d.Make(".-0"))
	expectListing(t, d, ".-0: a: "+longest+":")
	expectFile(t, d, "a", "", 0)
	expect(t, "with bytes", api.OK, d.Append("a", []byte("x")))
	expect(t, "again, with bytes", api.ErrExists, d.Make("a"))
	expectFile(t, d, "a", "x", 0)
	expect(t, "made anew", api.OK, d.Remove("a"), d.Make("a"))
	expectFile(t, d, "a", "", 0)
}

// P4.2: there are at most 64 files, whether they have bytes or not.
func TestMakeMany(t *testing.T) {
	d := made(t, 1)
	for i := range api.MaxFiles {
		expect(t, strconv.Itoa(i), api.OK, d.Make("f"+strconv.Itoa(i)))
	}
	expect(t, "the 65th", api.ErrFull, d.Make("g"), d.Make("h"))
	expect(t, "one that is there", api.ErrExists, d.Make("f63"))
	expect(t, "one that may not be", api.ErrArg, d.Make("G"))
	expectNoFile(t, d, "g")
	if d.Pending() != 64 || d.Changes() != 64 || api.MaxFiles != 64 {
		t.Error(d.Pending(), d.Changes())
	}
	expect(t, "with room", api.OK, d.Remove("f0"), d.Make("g"))
	expect(t, "the 65th", api.ErrFull, d.Make("f0"))
	expect(t, "with room", api.OK, d.Rename("f1", "f2"), d.Make("f0"))
}

// P4.2: Append: the bytes stand at the end, loose.
func TestAppend(t *testing.T) {
	d := withFile(t, 99, "xyz")
	expect(t, "Append", api.OK, d.Append("a", []byte("uv")), d.Append("a", nil), d.Append("a", []byte{}), d.Append("a", []byte{0, 255}))
	expectFile(t, d, "a", "xyzuv\x00\xff", 3)
	expectFile(t, d.Crash(3), "a", "xyzuv\x00", 6)
	expect(t, "names that may not be", api.ErrArg, d.Append("", nil), d.Append("A", []byte("x")))
	expect(t, "no such file", api.ErrNone, d.Append("b", nil), d.Append("b", []byte("x")))
}

// P4.2: an Append that just fits, and one byte more; all files count.
func TestAppendFull(t *testing.T) {
	for _, capacity := range []int{1, 2, 7, api.MaxDisk} {
		d := made(t, capacity)
		d.Make("a")
		d.Make("b")
		expect(t, "one byte more", api.ErrFull, d.Append("a", make([]byte, capacity+1)))
		expectFile(t, d, "a", "", 0)
		expect(t, "just", api.OK, d.Append("a", make([]byte, capacity-1)), d.Append("b", []byte("x")), d.Append("a", nil))
		expect(t, "one byte more", api.ErrFull, d.Append("a", []byte("y")), d.Append("b", []byte("y")))
		expectFile(t, d, "b", "x", 0)
		expect(t, "with room", api.OK, d.Cut("b", 0), d.Append("a", []byte("z")))
		if b, _ := d.Read("a"); len(b) != capacity || b[capacity-1] != 'z' {
			t.Error(len(b))
		}
	}
}

// P4.2: Sync: all of the file lasts, and of no other.
func TestSync(t *testing.T) {
	d := made(t, 99)
	expect(t, "two files", api.OK, d.Make("a"), d.Make("b"), d.SyncDir(), d.Append("a", []byte("xyz")), d.Append("b", []byte("uv")), d.Sync("a"))
	expectFile(t, d, "a", "xyz", 3)
	expectFile(t, d, "b", "uv", 0)
	c := d.Crash()
	expectFile(t, c, "a", "xyz", 3)
	expectFile(t, c, "b", "", 0)
	expect(t, "names that may not be", api.ErrArg, d.Sync(""), d.Sync("A"))
	expect(t, "no such file", api.ErrNone, d.Sync("c"))
	expect(t, "again", api.OK, d.Sync("a"), d.Append("a", []byte("!")), d.Sync("a"))
	expectFile(t, d, "a", "xyz!", 4)
}

// P4.2: Sync of a file that the directory that lasts has not: its bytes last, its name does not.
func TestSyncNotInDirectory(t *testing.T) {
	d := made(t, 99)
	expect(t, "a file", api.OK, d.Make("a"), d.Append("a", []byte("xyz")), d.Sync("a"))
	expectFile(t, d, "a", "xyz", 3)
	expectNoFile(t, d.Crash(), "a")
	expectFile(t, d.Crash(1), "a", "xyz", 3)
	expectFile(t, d.Crash(1, 9), "a", "xyz", 3)
}

// P4.2: Sync of a file that the directory that lasts has under another name: its bytes last there.
func TestSyncUnderAnotherName(t *testing.T) {
	d := withFile(t, 99, "xyz")
	expect(t, "renamed", api.OK, d.Append("a", []byte("uv")), d.Rename("a", "b"), d.Append("b", []byte("w")), d.Sync("b"))
	expectFile(t, d, "b", "xyzuvw", 6)
	c := d.Crash()
	expectFile(t, c, "a", "xyzuvw", 6)
	expectNoFile(t, c, "b")
	c = d.Crash(1)
	expectFile(t, c, "b", "xyzuvw", 6)
	expectNoFile(t, c, "a")
}

// P4.2: Cut: the first n bytes, and at once, what lasts of it, too.
func TestCut(t *testing.T) {
	for n, lasts := range []int{0, 1, 2, 3, 3, 3} {
		d := withFile(t, 99, "xyz")
		expect(t, "Cut", api.OK, d.Append("a", []byte("uv")), d.Cut("a", n))
		expectFile(t, d, "a", "xyzuv"[:n], lasts)
		expectFile(t, d.Crash(), "a", "xyzuv"[:lasts], lasts)
		if d.Room() != 99-n || d.Pending() != 0 {
			t.Error(n, d.Room(), d.Pending())
		}
		expect(t, "Append behind a Cut", api.OK, d.Append("a", []byte("!?")))
		expectFile(t, d, "a", "xyzuv"[:n]+"!?", lasts)
		expectFile(t, d.Crash(), "a", "xyzuv"[:lasts], lasts)
	}
}

// P4.2: Cut behind the end, below 0, and what it does then: nothing.
func TestCutErrors(t *testing.T) {
	d := withFile(t, 99, "xyz")
	expect(t, "numbers that may not be", api.ErrArg, d.Cut("a", 4), d.Cut("a", -1), d.Cut("a", math.MinInt), d.Cut("a", math.MaxInt))
	expect(t, "names that may not be", api.ErrArg, d.Cut("", 0), d.Cut("A", 0))
	expect(t, "no such file", api.ErrNone, d.Cut("b", 0), d.Cut("b", 1), d.Cut("b", math.MaxInt))
	expect(t, "no such file, below 0", api.ErrArg, d.Cut("b", -1))
	expectFile(t, d, "a", "xyz", 3)
	expect(t, "of no bytes", api.OK, d.Make("e"), d.Cut("e", 0))
	expect(t, "of no bytes", api.ErrArg, d.Cut("e", 1))
}

// P4.2: a Cut of a file lasts wherever the directory that lasts has it.
func TestCutUnderAnotherName(t *testing.T) {
	d := withFile(t, 99, "xyz")
	expect(t, "renamed", api.OK, d.Rename("a", "b"), d.Cut("b", 1))
	expectFile(t, d.Crash(), "a", "x", 1)
}

// P4.2: Rename: the file has that name, with its bytes, and no more the old one.
func TestRename(t *testing.T) {
	d := withFile(t, 99, "xyz")
	expect(t, "renamed", api.OK, d.Append("a", []byte("uv")), d.Rename("a", "b"))
	expectFile(t, d, "b", "xyzuv", 3)
	expectNoFile(t, d, "a")
	expectListing(t, d, "b:|||||")
	expect(t, "no such file", api.ErrNone, d.Rename("a", "b"), d.Rename("a", "a"), d.Rename("a", "c"))
	expect(t, "names that may not be", api.ErrArg, d.Rename("", "b"), d.Rename("b", ""), d.Rename("B", "b"), d.Rename("b", "B"), d.Rename("a", "B"), d.Rename("b", strings.Repeat("b", 33)))
	expect(t, "the longest name", api.OK, d.Rename("b", strings.Repeat("b", 32)))
	expectNoFile(t, d, "b")
	if d.Pending() != 2 {
		t.Error(d.Pending())
	}
}

// P4.2: Rename over another file: that is gone.
func TestRenameOver(t *testing.T) {
	d := withFile(t, 9, "xyz")
	expect(t, "another one", api.OK, d.Make("b"), d.Append("b", []byte("uvw")), d.Sync("b"), d.SyncDir(), d.Rename("a", "b"))
	expectListing(t, d, "b:|||")
	expectFile(t, d, "b", "xyz", 3)
	if d.Room() != 6 || d.Pending() != 1 {
		t.Error(d.Room(), d.Pending())
	}
	c := d.Crash()
	expectFile(t, c, "a", "xyz", 3)
	expectFile(t, c, "b", "uvw", 3)
	c = d.Crash(1)
	expectNoFile(t, c, "a")
	expectFile(t, c, "b", "xyz", 3)
}

// P4.2: Rename to itself: nothing changes, but it is a change, and stands in the list.
func TestRenameToItself(t *testing.T) {
	d := withFile(t, 99, "xyz")
	before := d.Changes()
	expect(t, "to itself", api.OK, d.Append("a", []byte("uv")), d.Rename("a", "a"))
	expectListing(t, d, "a:|||||")
	expectFile(t, d, "a", "xyzuv", 3)
	if d.Changes() != before+2 || d.Pending() != 1 {
		t.Error(d.Changes(), d.Pending())
	}
	expectFile(t, d.Crash(1, 1), "a", "xyzu", 4)
	expectFile(t, d.Crash(0, 1), "a", "xyzu", 4)
	d.Fuse(0)
	expect(t, "to itself, at the fuse's end", api.ErrDead, d.Rename("a", "a"))
}

// P4.2: Remove: it is gone; others stay.
func TestRemove(t *testing.T) {
	d := withFile(t, 99, "xyz")
	expect(t, "another one", api.OK, d.Make("b"))
	expect(t, "names that may not be", api.ErrArg, d.Remove(""), d.Remove("A"))
	expect(t, "no such file", api.ErrNone, d.Remove("c"))
	expect(t, "Remove", api.OK, d.Remove("a"))
	expect(t, "again", api.ErrNone, d.Remove("a"), d.Append("a", nil), d.Sync("a"), d.Cut("a", 0), d.Rename("a", "c"))
	expectNoFile(t, d, "a")
	expectListing(t, d, "b:")
	expectFile(t, d.Crash(), "a", "xyz", 3)
	expectListing(t, d.Crash(0, 1), "")
	expectListing(t, d.Crash(1, 1), "b:")
}

// P4.2: SyncDir: the directory lasts, whatever was picked; the list is empty.
func TestSyncDir(t *testing.T) {
	d := withFile(t, 99, "xyz")
	expect(t, "changes", api.OK, d.Make("b"), d.Rename("a", "c"), d.Make("d"), d.Remove("b"), d.SyncDir())
	if d.Pending() != 0 {
		t.Error(d.Pending())
	}
	expectListing(t, d, "c:||| d:")
	for _, picks := range [][]int{nil, {0, 0, 0, 0}, {1, 1, 1, 1}} {
		expectListing(t, d.Crash(picks...), "c:||| d:")
	}
	expect(t, "again", api.OK, d.SyncDir())
	expectListing(t, d.Crash(), "c:||| d:")
}

// P4.2: SyncDir makes no bytes last.
func TestSyncDirKeepsLoose(t *testing.T) {
	d := made(t, 99)
	expect(t, "a file", api.OK, d.Make("a"), d.Append("a", []byte("xyz")), d.SyncDir())
	expectFile(t, d, "a", "xyz", 0)
	expectFile(t, d.Crash(), "a", "", 0)
	expectFile(t, d.Crash(2), "a", "xy", 2)
}

// P4.2: what changes behind a SyncDir does not reach what lasts.
func TestBehindSyncDir(t *testing.T) {
	d := withFile(t, 99, "xyz")
	expect(t, "changes", api.OK, d.Remove("a"), d.Make("a"), d.Append("a", []byte("uv")), d.Sync("a"), d.Make("b"))
	c := d.Crash()
	expectListing(t, c, "a:|||")
	expectFile(t, c, "a", "xyz", 3)
}

// wrongs are calls that are refused ahead of the fault and of the power's end, with what they answer: of a disk with 64 files, a among them of just as many bytes as there may be.
func wrongs(d *Disk) map[string][2]api.Errno {
	much := make([]byte, 1)
	return map[string][2]api.Errno{
		"Make of no name":                   {d.Make(""), api.ErrArg},
		"Make of one that is there":         {d.Make("a"), api.ErrExists},
		"Make of one too many":              {d.Make("n"), api.ErrFull},
		"Append to no name":                 {d.Append("A", much), api.ErrArg},
		"Append to none":                    {d.Append("n", much), api.ErrNone},
		"Append of too much":                {d.Append("a", much), api.ErrFull},
		"Sync of no name":                   {d.Sync("a_"), api.ErrArg},
		"Sync of none":                      {d.Sync("n"), api.ErrNone},
		"Cut of no name":                    {d.Cut("", 0), api.ErrArg},
		"Cut of none, below 0":              {d.Cut("n", -1), api.ErrArg},
		"Cut of none":                       {d.Cut("n", 9), api.ErrNone},
		"Cut behind the end":                {d.Cut("a", 4), api.ErrArg},
		"Rename of no name":                 {d.Rename("", "a"), api.ErrArg},
		"Rename of none to no name":         {d.Rename("n", ""), api.ErrArg},
		"Rename of none":                    {d.Rename("n", "a"), api.ErrNone},
		"Remove of no name":                 {d.Remove("n "), api.ErrArg},
		"Remove of none":                    {d.Remove("n"), api.ErrNone},
		"Lay of a number below 0":           {d.Lay(-1, api.ErrFull), api.ErrArg},
		"Lay of another error":              {d.Lay(0, api.ErrDead), api.ErrArg},
		"Lay of no error":                   {d.Lay(0, api.OK), api.ErrArg},
		"Lay of an error that there is not": {d.Lay(0, 99), api.ErrArg},
	}
}

// fullDisk is a disk with 64 files, without room.
func fullDisk(t *testing.T) *Disk {
	t.Helper()
	d := withFile(t, 3, "xyz")
	for i := range api.MaxFiles - 1 {
		expect(t, "a file", api.OK, d.Make("f"+strconv.Itoa(i)))
	}
	return d
}

func expectWrongs(t *testing.T, what string, d *Disk) {
	t.Helper()
	for call, x := range wrongs(d) {
		if x[0] != x[1] {
			t.Errorf("%s: %s: %v; want %v", what, call, x[0], x[1])
		}
	}
}

// P4.2: errors in their order, with a fault that is due, at the fuse's end, and behind the power's end, too; what is refused so changes nothing, and meets neither.
func TestOrderOfErrors(t *testing.T) {
	d := fullDisk(t)
	files, changes := listing(d), d.Changes()
	expectWrongs(t, "well", d)
	for _, fault := range []api.Errno{api.ErrFull, api.ErrDisk} {
		expect(t, "Lay", api.OK, d.Lay(0, fault))
		d.Fuse(0)
		expectWrongs(t, "with a fault and a fuse", d)
		expect(t, "the fault, ahead of the fuse's end", fault, d.Sync("a"))
		changes++
	}
	d.Fuse(0)
	expectWrongs(t, "with a fuse", d)
	if d.Dead() || listing(d) != files || d.Changes() != changes {
		t.Error(d.Dead(), listing(d), d.Changes(), changes)
	}
	expect(t, "the fuse's end", api.ErrDead, d.Sync("a"))
	expectWrongs(t, "without power", d)
	if listing(d) != files || d.Changes() != changes+1 || d.Pending() != 63 {
		t.Error(listing(d), d.Changes(), d.Pending())
	}
}
