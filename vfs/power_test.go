package vfs

import (
	"math"
	"testing"

	"landmark/api"
)

// step is a change that is done where nothing stands in its way.
type step struct {
	what string
	do   func(*Disk) api.Errno
}

// steps are all kinds of changes that do not leave anything where something stands in their way.
func steps() []step {
	return []step{
		{"Make", func(d *Disk) api.Errno { return d.Make("n") }},
		{"Sync", func(d *Disk) api.Errno { return d.Sync("b") }},
		{"Cut", func(d *Disk) api.Errno { return d.Cut("b", 1) }},
		{"Rename", func(d *Disk) api.Errno { return d.Rename("b", "n") }},
		{"Rename over", func(d *Disk) api.Errno { return d.Rename("b", "a") }},
		{"Rename to itself", func(d *Disk) api.Errno { return d.Rename("b", "b") }},
		{"Remove", func(d *Disk) api.Errno { return d.Remove("b") }},
		{"SyncDir", func(d *Disk) api.Errno { return d.SyncDir() }},
	}
}

func appendTo(b string) step {
	return step{"Append", func(d *Disk) api.Errno { return d.Append("b", []byte(b)) }}
}

// scene is a disk with a file of which all lasts, and one of which nothing does.
func scene(t *testing.T) *Disk {
	t.Helper()
	d := withFile(t, 99, "xyz")
	expect(t, "a scene", api.OK, d.Make("b"), d.Append("b", []byte("uv")))
	return d
}

// expectScene wants that nothing was done to a scene, but for more bytes of b.
func expectScene(t *testing.T, what string, d *Disk, more string) {
	t.Helper()
	expectFile(t, d, "a", "xyz", 3)
	expectFile(t, d, "b", "uv"+more, 0)
	if len(d.files) != 2 || d.Pending() != 1 || len(listing(d.Crash())) != len("a:|||") {
		t.Errorf("%s: %q, %d, %q", what, listing(d), d.Pending(), listing(d.Crash()))
	}
}

// P4.1: Lay: ErrArg of a number below 0, and of another error; the fault that was laid stays then.
func TestLay(t *testing.T) {
	d := scene(t)
	for e := api.Errno(-1); e < 25; e++ {
		want := api.ErrArg
		if e == api.ErrFull || e == api.ErrDisk {
			want = api.OK
		}
		expect(t, "Lay", want, d.Lay(0, e), d.Lay(7, e), d.Lay(math.MaxInt, e))
		expect(t, "Lay below 0", api.ErrArg, d.Lay(-1, e), d.Lay(math.MinInt, e))
	}
	expect(t, "a fault that is far off", api.OK, d.SyncDir(), d.SyncDir())
	expect(t, "Lay", api.OK, d.Lay(0, api.ErrFull))
	expect(t, "Lay that is refused", api.ErrArg, d.Lay(5, api.ErrNone), d.Lay(-1, api.ErrDisk))
	expect(t, "the fault that was", api.ErrFull, d.SyncDir())
}

// Words: a fault refuses each kind of change, at 0 and later; nothing is done then, and it is gone.
func TestFaultOfEachKind(t *testing.T) {
	for _, fault := range []api.Errno{api.ErrFull, api.ErrDisk} {
		for _, s := range steps() {
			for _, n := range []int{0, 1, 2, 5} {
				d := scene(t)
				before := d.Changes()
				expect(t, "Lay", api.OK, d.Lay(n, fault))
				for range n {
					expect(t, s.what+": ahead of the fault", api.OK, d.Sync("a"))
				}
				expect(t, s.what+": the fault", fault, s.do(d))
				expectScene(t, s.what, d, "")
				if d.Changes() != before+n+1 || d.Dead() {
					t.Error(s.what, d.Changes(), before, d.Dead())
				}
				expect(t, s.what+": behind the fault", api.OK, s.do(d), d.SyncDir(), d.SyncDir())
			}
		}
	}
}

// Words: of an Append at ErrDisk the first half of the bytes, rounded down, stand there, loose; at ErrFull nothing.
func TestFaultOfAppend(t *testing.T) {
	const bytes = "1234567"
	for n := range len(bytes) + 1 {
		d := scene(t)
		expect(t, "Lay", api.OK, d.Lay(0, api.ErrFull))
		expect(t, "ErrFull", api.ErrFull, appendTo(bytes[:n]).do(d))
		expectScene(t, "ErrFull", d, "")
		expect(t, "Lay", api.OK, d.Lay(0, api.ErrDisk))
		expect(t, "ErrDisk", api.ErrDisk, appendTo(bytes[:n]).do(d))
		expectScene(t, "ErrDisk", d, bytes[:n/2])
		expect(t, "behind the fault", api.OK, appendTo("!").do(d))
		expectScene(t, "behind the fault", d, bytes[:n/2]+"!")
		if d.Dead() || d.Room() != 99-6-n/2 {
			t.Error(d.Dead(), d.Room())
		}
	}
}

// P4.1: a fault is laid in the place of the one that was.
func TestFaultInPlace(t *testing.T) {
	d := scene(t)
	d.Lay(0, api.ErrDisk)
	d.Lay(1, api.ErrFull)
	expect(t, "ahead", api.OK, d.Sync("a"))
	expect(t, "the later one", api.ErrFull, d.Sync("a"))
	expect(t, "behind", api.OK, d.Sync("a"), d.Sync("a"), d.Sync("a"))
	d.Lay(3, api.ErrFull)
	expect(t, "ahead", api.OK, d.Sync("a"))
	d.Lay(0, api.ErrDisk)
	expect(t, "the sooner one", api.ErrDisk, d.Sync("a"))
	expect(t, "behind", api.OK, d.Sync("a"), d.Sync("a"), d.Sync("a"))
}

// Words: a fuse of n: n more changes are done; at the next one the power goes: of another one than an Append nothing is done.
func TestFuseOfEachKind(t *testing.T) {
	for _, s := range steps() {
		for _, n := range []int{0, 1, 2, 5} {
			d := scene(t)
			before := d.Changes()
			d.Fuse(n)
			for range n {
				expect(t, s.what+": ahead of the fuse's end", api.OK, d.Sync("a"))
			}
			if d.Dead() {
				t.Error(s.what, "the power is gone ahead of the fuse's end")
			}
			expect(t, s.what+": the fuse's end", api.ErrDead, s.do(d))
			if !d.Dead() || d.Changes() != before+n+1 {
				t.Error(s.what, d.Dead(), d.Changes(), before)
			}
			expectScene(t, s.what, d, "")
		}
	}
}

// Words: of an Append at the fuse's end all bytes stand there, loose.
func TestFuseOfAppend(t *testing.T) {
	d := scene(t)
	d.Fuse(1)
	expect(t, "ahead", api.OK, appendTo("1").do(d))
	expect(t, "the fuse's end", api.ErrDead, appendTo("23456").do(d))
	expectScene(t, "the fuse's end", d, "123456")
	expect(t, "behind", api.ErrDead, appendTo("7").do(d))
	expectScene(t, "behind", d, "123456")
	expectFile(t, d.Crash(1, 6), "b", "uv1234", 6)
}

// P4.3: a fuse below 0 is none; one is laid in the place of the one that was.
func TestFuseLaidAnew(t *testing.T) {
	d := scene(t)
	for _, none := range []int{-1, -2, math.MinInt} {
		d.Fuse(1)
		expect(t, "with a fuse", api.OK, d.Sync("a"))
		d.Fuse(none)
		expect(t, "with none", api.OK, d.Sync("a"), d.Sync("a"), d.Sync("a"))
	}
	d.Fuse(math.MaxInt)
	expect(t, "with a great one", api.OK, d.Sync("a"), d.Sync("a"))
	d.Fuse(0)
	d.Fuse(2)
	expect(t, "with a later one", api.OK, d.Sync("a"), d.Sync("a"))
	d.Fuse(1)
	expect(t, "with a later one", api.OK, d.Sync("a"))
	expect(t, "its end", api.ErrDead, d.Sync("a"))
}

// Words: behind the power's end each change is ErrDead, and does nothing; no fuse and no fault change that; each look goes on.
func TestBehindThePowersEnd(t *testing.T) {
	d := scene(t)
	d.Fuse(0)
	expect(t, "the fuse's end", api.ErrDead, d.SyncDir())
	changes := d.Changes()
	again := func(what string) {
		t.Helper()
		for _, s := range append(steps(), appendTo("1"), appendTo("")) {
			expect(t, what+": "+s.what, api.ErrDead, s.do(d), s.do(d))
		}
		expectScene(t, what, d, "")
		expectListing(t, d, "a:||| b:||")
		if !d.Dead() || d.Changes() != changes || d.Room() != 94 || d.Pending() != 1 {
			t.Error(what, d.Dead(), d.Changes(), changes, d.Room(), d.Pending())
		}
	}
	again("without power")
	for _, n := range []int{5, 0, -1} {
		d.Fuse(n)
		again("with another fuse")
	}
	for _, fault := range []api.Errno{api.ErrFull, api.ErrDisk} {
		expect(t, "Lay without power", api.OK, d.Lay(0, fault))
		expect(t, "Lay without power", api.ErrArg, d.Lay(-1, fault))
		again("with a fault")
	}
	if _, e := d.Read("n"); e != api.ErrNone {
		t.Error(e)
	}
	if c := d.Copy(); !c.Dead() || c.Sync("a") != api.ErrDead || c.Changes() != changes {
		t.Error("a copy's power came back")
	}
}

// Words: a change that meets the fault counts for the fuse.
func TestFaultCountsForFuse(t *testing.T) {
	d := scene(t)
	d.Fuse(2)
	d.Lay(0, api.ErrFull)
	expect(t, "the fault", api.ErrFull, d.Sync("a"))
	expect(t, "one more", api.OK, d.Sync("a"))
	expect(t, "the fuse's end", api.ErrDead, d.Sync("a"))
}

// Words: the power does not go at a change that meets the fault at the fuse's end; it goes at the next one.
func TestFaultAtFusesEnd(t *testing.T) {
	for _, fault := range []api.Errno{api.ErrFull, api.ErrDisk} {
		for _, n := range []int{0, 1, 3} {
			d := scene(t)
			d.Fuse(n)
			d.Lay(n, fault)
			for range n {
				expect(t, "ahead", api.OK, d.Sync("a"))
			}
			before := d.Changes()
			expect(t, "the fault", fault, appendTo("1234").do(d))
			if d.Dead() || d.Changes() != before+1 {
				t.Error(d.Dead(), d.Changes(), before)
			}
			half := map[api.Errno]string{api.ErrFull: "", api.ErrDisk: "12"}[fault]
			expectScene(t, "the fault", d, half)
			expect(t, "the fuse's end", api.ErrDead, appendTo("56").do(d))
			expectScene(t, "the fuse's end", d, half+"56")
			if !d.Dead() || d.Changes() != before+2 {
				t.Error(d.Dead(), d.Changes(), before)
			}
		}
	}
}

// Words: at the fuse's end no fault is met that is due later.
func TestFuseAheadOfFault(t *testing.T) {
	d := scene(t)
	d.Fuse(1)
	d.Lay(2, api.ErrDisk)
	expect(t, "ahead", api.OK, d.Sync("a"))
	expect(t, "the fuse's end", api.ErrDead, appendTo("12").do(d))
	expect(t, "behind", api.ErrDead, appendTo("34").do(d), d.SyncDir())
	expectScene(t, "behind", d, "12")
}

// P4.4: Crash gives power, without a fuse, without a fault; all that is there lasts; Changes is 0; the disk stays as it is.
func TestCrashAnew(t *testing.T) {
	d := scene(t)
	d.Lay(1, api.ErrDisk)
	d.Fuse(0)
	expect(t, "the fuse's end", api.ErrDead, d.SyncDir())
	changes := d.Changes()
	c := d.Crash(1, 1)
	if c.Dead() || c.Changes() != 0 || c.Pending() != 0 || c.Room() != 95 {
		t.Error(c.Dead(), c.Changes(), c.Pending(), c.Room())
	}
	expectFile(t, c, "a", "xyz", 3)
	expectFile(t, c, "b", "u", 1)
	expect(t, "with power", api.OK, c.Append("b", []byte("!")), c.Sync("b"), c.Remove("a"), c.SyncDir())
	expectScene(t, "what lost its power", d, "")
	if !d.Dead() || d.Changes() != changes || d.Room() != 94 {
		t.Error(d.Dead(), d.Changes(), d.Room())
	}
	well := scene(t)
	well.Fuse(1)
	well.Lay(0, api.ErrFull)
	c = well.Crash(1)
	expect(t, "with power", api.OK, c.Append("b", []byte("!")), c.Sync("b"), c.Remove("a"), c.SyncDir())
	expectScene(t, "a disk with power", well, "")
	expect(t, "its fault", api.ErrFull, well.SyncDir())
	expect(t, "its fuse", api.ErrDead, well.SyncDir())
}

// P4.4: what is done to a disk behind a Crash does not reach the other one.
func TestCrashApart(t *testing.T) {
	d := scene(t)
	c := d.Crash(1, 2)
	expect(t, "on the old one", api.OK, d.Cut("a", 1), d.Append("a", []byte("!")), d.Cut("b", 0))
	expectFile(t, c, "a", "xyz", 3)
	expectFile(t, c, "b", "uv", 2)
	expect(t, "on the new one", api.OK, c.Cut("a", 2), c.Append("a", []byte("?")), c.Make("n"))
	expectFile(t, d, "a", "x!", 1)
	expectListing(t, d, "a:|| b:")
}

// Words: a change of the list is done, if its pick is odd; below 0, and behind the picks' end, it is not.
func TestPicksOfChanges(t *testing.T) {
	d := made(t, 9)
	expect(t, "makes", api.OK, d.Make("a"), d.Make("b"), d.Make("c"))
	for _, x := range []struct {
		picks []int
		want  string
	}{
		{nil, ""},
		{[]int{}, ""},
		{[]int{1}, "a:"},
		{[]int{0, 1}, "b:"},
		{[]int{2, 3, 4}, "b:"},
		{[]int{3, 0, 5}, "a: c:"},
		{[]int{1, 1, 1}, "a: b: c:"},
		{[]int{1, 1, 1, 1, 7, 9}, "a: b: c:"},
		{[]int{-1, -3, math.MinInt}, ""},
		{[]int{math.MinInt + 1, 1, math.MaxInt}, "b: c:"},
		{[]int{math.MaxInt - 1, math.MaxInt}, "b:"},
	} {
		expectListing(t, d.Crash(x.picks...), x.want)
	}
}

// Words: so many loose bytes as the pick says, modulo how many they are and one.
func TestPicksOfBytes(t *testing.T) {
	d := withFile(t, 9, "xyz")
	expect(t, "loose bytes", api.OK, d.Append("a", []byte("uvw")))
	for pick, want := range map[int]string{
		0: "xyz", 1: "xyzu", 2: "xyzuv", 3: "xyzuvw", 4: "xyz", 5: "xyzu", 7: "xyzuvw", 8: "xyz",
		-1: "xyz", -2: "xyz", -3: "xyz", -5: "xyz", math.MinInt: "xyz", math.MaxInt: "xyzuvw",
	} {
		expectFile(t, d.Crash(pick), "a", want, len(want))
	}
	expectFile(t, d.Crash(), "a", "xyz", 3)
	expectFile(t, d.Crash(2, 1, 1), "a", "xyzuv", 5)
}

// Words: first the changes, then the files that have loose bytes, by rising names; a file without takes no pick.
func TestPicksInTurn(t *testing.T) {
	d := made(t, 99)
	expect(t, "files", api.OK, d.Make("c"), d.Make("a"), d.SyncDir())
	expect(t, "changes", api.OK, d.Make("b"), d.Append("c", []byte("333")), d.Append("a", []byte("11")), d.Append("b", []byte("2222")), d.Make("d"), d.Sync("a"), d.Make("e"), d.Append("e", []byte("55555")))
	// The changes are the makes of b, d, e; a and d have no loose bytes.
	c := d.Crash(1, 0, 1, 3, 2, 4)
	expectFile(t, c, "a", "11", 2)
	expectFile(t, c, "b", "222", 3)
	expectFile(t, c, "c", "33", 2)
	expectNoFile(t, c, "d")
	expectFile(t, c, "e", "5555", 4)
	c = d.Crash(0, 1, 1, 1, 2)
	expectFile(t, c, "a", "11", 2)
	expectNoFile(t, c, "b")
	expectFile(t, c, "c", "3", 1)
	expectFile(t, c, "d", "", 0)
	expectFile(t, c, "e", "55", 2)
	c = d.Crash(1, 0, 0, 4)
	expectFile(t, c, "b", "2222", 4)
	expectFile(t, c, "c", "", 0)
}

// Words: a make that can't be done to the directory that lasts is not, though it is picked; it takes its pick.
func TestMakeThatCantBe(t *testing.T) {
	d := withFile(t, 99, "xyz")
	expect(t, "another a", api.OK, d.Remove("a"), d.Make("a"), d.Append("a", []byte("uvw")), d.Sync("a"), d.Make("b"))
	expectFile(t, d.Crash(0, 1), "a", "xyz", 3)
	expectFile(t, d.Crash(1, 1), "a", "uvw", 3)
	expectListing(t, d.Crash(1, 0), "")
	expectListing(t, d.Crash(0, 1, 1), "a:||| b:")
	expectListing(t, d.Crash(0, 1, 0), "a:|||")
}

// Words: a make that was picked, and is in the way of a later one: the earlier file stays, with its own bytes.
func TestMakeInTheWay(t *testing.T) {
	d := made(t, 99)
	expect(t, "two of a name", api.OK, d.Make("a"), d.Append("a", []byte("first")), d.Remove("a"), d.Make("a"), d.Append("a", []byte("2nd")))
	expectFile(t, d.Crash(1, 0, 1, 4), "a", "firs", 4)
	expectFile(t, d.Crash(1, 1, 1, 2), "a", "2n", 2)
	expectFile(t, d.Crash(0, 1, 1, 3), "a", "2nd", 3)
	expectNoFile(t, d.Crash(1, 1, 0), "a")
}

// Words: a rename, a remove that can't be done to the directory that lasts is not; one that can be is, to what is there.
func TestRenameThatCantBe(t *testing.T) {
	d := withFile(t, 99, "xyz")
	expect(t, "changes", api.OK, d.Make("b"), d.Append("b", []byte("uv")), d.Rename("b", "a"), d.Remove("a"))
	expectFile(t, d.Crash(0, 1), "a", "xyz", 3)
	expectFile(t, d.Crash(1, 1, 0, 1), "a", "u", 1)
	expectListing(t, d.Crash(1, 1, 1), "")
	expectListing(t, d.Crash(0, 1, 1), "")
	expectListing(t, d.Crash(1, 0, 0, 2), "a:||| b:||")
	r := made(t, 99)
	expect(t, "a remove", api.OK, r.Make("a"), r.Remove("a"), r.Make("b"))
	expectListing(t, r.Crash(0, 1, 1), "b:")
	expectListing(t, r.Crash(1, 0, 1), "a: b:")
}

// Words: a rename of the list is done to the file that has the name then, be it another one.
func TestRenameOfAnother(t *testing.T) {
	d := withFile(t, 99, "xyz")
	expect(t, "another a, renamed", api.OK, d.Remove("a"), d.Make("a"), d.Append("a", []byte("uvw")), d.Rename("a", "b"))
	c := d.Crash(0, 0, 1)
	expectFile(t, c, "b", "xyz", 3)
	expectNoFile(t, c, "a")
	expectFile(t, d.Crash(1, 1, 1, 2), "b", "uv", 2)
	expectFile(t, d.Crash(1, 1, 0, 1), "a", "u", 1)
}

// Words: a file that was removed, or that another took the name of, comes back with all that lasted, and loose bytes as picked.
func TestRemovedComesBack(t *testing.T) {
	d := withFile(t, 99, "xyz")
	expect(t, "removed", api.OK, d.Append("a", []byte("uv")), d.Remove("a"))
	expectFile(t, d.Crash(), "a", "xyz", 3)
	expectFile(t, d.Crash(0, 1), "a", "xyzu", 4)
	expectFile(t, d.Crash(2, 2), "a", "xyzuv", 5)
}

// Words: a loss of power may leave more files than there may be made; none is lost by that.
func TestCrashBeyondFiles(t *testing.T) {
	d := fullDisk(t)
	expect(t, "one for another", api.OK, d.SyncDir(), d.Remove("f0"), d.Make("g"))
	c := d.Crash(0, 1)
	if len(c.files) != 65 {
		t.Error(len(c.files))
	}
	expect(t, "one more", api.ErrFull, c.Make("h"))
	expect(t, "removed", api.OK, c.Remove("f0"))
	expect(t, "one more", api.ErrFull, c.Make("h"))
	expect(t, "removed", api.OK, c.Remove("f1"), c.Make("h"))
}

// P4.4: a copy goes on apart, and is in all as what it was made of.
func TestCopy(t *testing.T) {
	d := scene(t)
	d.Rename("a", "c")
	d.Lay(1, api.ErrDisk)
	d.Fuse(2)
	c := d.Copy()
	for _, x := range []*Disk{d, c} {
		expectListing(t, x, "b:|| c:|||")
		if x.Pending() != 2 || x.Room() != 94 || x.Dead() || x.Changes() != 7 {
			t.Error(x.Pending(), x.Room(), x.Dead(), x.Changes())
		}
		expectListing(t, x.Crash(), "a:|||")
		expectListing(t, x.Crash(1, 1, 1), "b:| c:|||")
	}
	expect(t, "on the one", api.OK, d.Append("c", []byte("!")))
	expect(t, "on the one", api.ErrDisk, d.Remove("b"))
	expect(t, "on the one", api.ErrDead, d.Remove("b"))
	expectFile(t, d, "c", "xyz!", 3)
	expectFile(t, c, "c", "xyz", 3)
	expect(t, "on the copy", api.OK, c.Cut("c", 1))
	expect(t, "on the copy", api.ErrDisk, c.Append("b", []byte("1234")))
	expect(t, "on the copy", api.ErrDead, c.Append("b", []byte("5")))
	expectFile(t, c, "b", "uv125", 0)
	expectFile(t, d, "b", "uv", 0)
	expectFile(t, d, "c", "xyz!", 3)
	expectFile(t, d.Crash(), "a", "xyz", 3)
	expectFile(t, c.Crash(), "a", "x", 1)
}

// P4.4: in a copy, too, a file is one, wherever it is named from: in the directory, in the one that lasts, in the list.
func TestCopyKeepsFiles(t *testing.T) {
	d := scene(t)
	d.Rename("a", "c")
	c := d.Copy()
	expect(t, "on the copy", api.OK, c.Append("c", []byte("!")), c.Sync("c"), c.Append("b", []byte("w")), c.Sync("b"))
	expectFile(t, c.Crash(), "a", "xyz!", 4)
	expectFile(t, c.Crash(1), "b", "uvw", 3)
	expectFile(t, d.Crash(), "a", "xyz", 3)
	expectFile(t, d.Crash(1), "b", "", 0)
	expect(t, "on the copy", api.OK, c.SyncDir(), c.Make("n"))
	expectListing(t, c.Crash(), "b:||| c:||||")
	expectListing(t, d.Crash(), "a:|||")
	expectListing(t, d, "b:|| c:|||")
}

// P4.5: behind Sync and SyncDir, in either order, each Crash has the file.
func TestLastsBehindBoth(t *testing.T) {
	for _, dirFirst := range []bool{false, true} {
		d := made(t, 99)
		expect(t, "a file", api.OK, d.Make("a"), d.Append("a", []byte("xyz")))
		if dirFirst {
			expect(t, "both", api.OK, d.SyncDir(), d.Sync("a"))
		} else {
			expect(t, "both", api.OK, d.Sync("a"), d.SyncDir())
		}
		expect(t, "more", api.OK, d.Append("a", []byte("uv")), d.Make("b"))
		for first := range 4 {
			for second := range 7 {
				b, e := d.Crash(first, second).Read("a")
				if e != api.OK || len(b) < 3 || string(b) != "xyzuv"[:len(b)] {
					t.Errorf("Crash(%d, %d): %q %v", first, second, b, e)
				}
			}
		}
	}
}

// P4.5: Crash of a Crash is the same, whatever the picks.
func TestCrashOfCrash(t *testing.T) {
	d := scene(t)
	d.Append("a", []byte("uvw"))
	d.Rename("a", "c")
	for _, picks := range [][]int{nil, {1}, {1, 1, 1, 2}, {0, 1, 2}, {1, 0, 2, 1}} {
		c := d.Crash(picks...)
		for _, again := range [][]int{nil, {1, 1, 1}, {0, 2}} {
			x := c.Crash(again...)
			if listing(x) != listing(c) || x.Room() != c.Room() {
				t.Error(listing(x), listing(c))
			}
			for name := range c.Files() {
				b, _ := c.Read(name)
				expectFile(t, x, name, string(b), len(b))
			}
		}
	}
}

// The chapter's examples, one behind the other.
func TestExamples(t *testing.T) {
	d := made(t, 99)
	expect(t, "row 1", api.OK, d.Make("a"), d.Append("a", []byte("xyz")), d.Sync("a"))
	expectNoFile(t, d.Crash(), "a")
	expectFile(t, d.Crash(1), "a", "xyz", 3)
	expect(t, "row 2", api.OK, d.SyncDir(), d.Append("a", []byte("uv")), d.Rename("a", "b"))
	expectFile(t, d.Crash(0, 1), "a", "xyzu", 4)
	expectFile(t, d.Crash(1, 2), "b", "xyzuv", 5)
	expect(t, "row 3", api.OK, d.Lay(0, api.ErrDisk))
	expect(t, "row 3", api.ErrDisk, d.Append("b", []byte("wwww")))
	expectFile(t, d, "b", "xyzuvww", 3)
	d.Fuse(0)
	expect(t, "row 3", api.ErrDead, d.Remove("b"))
	expectFile(t, d, "b", "xyzuvww", 3)
}
