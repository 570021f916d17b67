package vfs

import (
	"fmt"
	"math/rand/v2"
	"slices"
	"strings"
	"testing"

	"landmark/api"
)

// A model of a disk, written from the chapter anew: files are numbers, directories are lists, fuse and fault are told by the count of the changes.

type modelName struct {
	name string
	file int
}

type modelChange struct {
	what, name, to string
	file           int
}

type model struct {
	capacity        int
	bytes           []string
	lasts           []int
	now, then       []modelName
	list            []modelChange
	count           int
	fuseEnd         int // the count at which the power goes; below 0: never
	faultAt, faults int // the count at which it is met; the error, 0 of none
	dead            bool
}

func newModel(capacity int) *model { return &model{capacity: capacity, fuseEnd: -1} }

func (m *model) clone() *model {
	c := *m
	c.bytes, c.lasts = slices.Clone(m.bytes), slices.Clone(m.lasts)
	c.now, c.then, c.list = slices.Clone(m.now), slices.Clone(m.then), slices.Clone(m.list)
	return &c
}

func place(dir []modelName, name string) int {
	return slices.IndexFunc(dir, func(n modelName) bool { return n.name == name })
}

func without(dir []modelName, name string) []modelName {
	return slices.DeleteFunc(slices.Clone(dir), func(n modelName) bool { return n.name == name })
}

// after is a directory behind a change; false: it can't be done to it.
func (c modelChange) after(dir []modelName) ([]modelName, bool) {
	at := place(dir, c.name)
	switch {
	case c.what == "make" && at < 0:
		return append(slices.Clone(dir), modelName{c.name, c.file}), true
	case c.what == "make" || at < 0:
		return dir, false
	case c.what == "remove":
		return without(dir, c.name), true
	}
	file := dir[at].file
	return append(without(without(dir, c.name), c.to), modelName{c.to, file}), true
}

func (m *model) room() int {
	room := m.capacity
	for _, n := range m.now {
		room -= len(m.bytes[n.file])
	}
	return max(room, 0)
}

func modelMayName(name string) bool {
	return len(name) >= 1 && len(name) <= 32 && strings.Trim(name, "abcdefghijklmnopqrstuvwxyz0123456789.-") == ""
}

// refusal is what refuses a call ahead of fault and power.
func (m *model) refusal(what, name, to, b string, n int) api.Errno {
	if what == "syncdir" {
		return api.OK
	}
	at := place(m.now, name)
	switch {
	case !modelMayName(name), what == "rename" && !modelMayName(to), what == "cut" && n < 0, what == "cut" && at >= 0 && n > len(m.bytes[m.now[at].file]):
		return api.ErrArg
	case what != "make" && at < 0:
		return api.ErrNone
	case what == "make" && at >= 0:
		return api.ErrExists
	case what == "make" && len(m.now) >= 64, what == "append" && len(b) > m.room():
		return api.ErrFull
	}
	return api.OK
}

// call does a change, or refuses it.
func (m *model) call(what, name, to, b string, n int) api.Errno {
	if e := m.refusal(what, name, to, b, n); e != api.OK {
		return e
	}
	if m.dead {
		return api.ErrDead
	}
	number := m.count
	m.count++
	if m.faults != 0 && number == m.faultAt {
		e := api.Errno(m.faults)
		m.faults = 0
		if e == api.ErrDisk && what == "append" {
			m.bytes[m.now[place(m.now, name)].file] += b[:len(b)/2]
		}
		return e
	}
	if m.fuseEnd >= 0 && number >= m.fuseEnd {
		m.dead = true
		if what == "append" {
			m.bytes[m.now[place(m.now, name)].file] += b
		}
		return api.ErrDead
	}
	m.do(what, name, to, b, n)
	return api.OK
}

func (m *model) do(what, name, to, b string, n int) {
	switch what {
	case "make":
		m.bytes, m.lasts = append(m.bytes, ""), append(m.lasts, 0)
	case "syncdir":
		m.then, m.list = slices.Clone(m.now), nil
		return
	}
	if what == "make" || what == "rename" || what == "remove" {
		c := modelChange{what, name, to, len(m.bytes) - 1}
		m.now, _ = c.after(m.now)
		m.list = append(m.list, c)
		return
	}
	file := m.now[place(m.now, name)].file
	switch what {
	case "append":
		m.bytes[file] += b
	case "sync":
		m.lasts[file] = len(m.bytes[file])
	case "cut":
		m.bytes[file] = m.bytes[file][:n]
		m.lasts[file] = min(m.lasts[file], n)
	}
}

func (m *model) fuse(n int) {
	m.fuseEnd = -1
	if n >= 0 {
		m.fuseEnd = m.count + n
	}
}

func (m *model) lay(n int, e api.Errno) { m.faultAt, m.faults = m.count+n, int(e) }

// crash is the model behind a loss of power; picks has one for each change and each file.
func (m *model) crash(picks []int) *model {
	used := 0
	pick := func() int {
		used++
		if used > len(picks) || picks[used-1] < 0 {
			return 0
		}
		return picks[used-1]
	}
	dir := m.then
	for _, c := range m.list {
		if after, can := c.after(dir); pick()%2 == 1 && can {
			dir = after
		}
	}
	dir = slices.Clone(dir)
	slices.SortFunc(dir, func(a, b modelName) int { return strings.Compare(a.name, b.name) })
	c := newModel(m.capacity)
	for i, n := range dir {
		b, keep := m.bytes[n.file], m.lasts[n.file]
		if len(b) > keep {
			keep += pick() % (len(b) - keep + 1)
		}
		c.bytes, c.lasts = append(c.bytes, b[:keep]), append(c.lasts, keep)
		c.now = append(c.now, modelName{n.name, i})
	}
	c.then = slices.Clone(c.now)
	return c
}

// text tells all that can be looked at.
func (m *model) text() string {
	names := slices.Clone(m.now)
	slices.SortFunc(names, func(a, b modelName) int { return strings.Compare(a.name, b.name) })
	var s strings.Builder
	for _, n := range names {
		fmt.Fprintf(&s, "%s=%s/%d ", n.name, m.bytes[n.file], m.lasts[n.file])
	}
	fmt.Fprint(&s, len(m.list), m.room(), m.dead, m.count)
	return s.String()
}

func textOf(d *Disk) string {
	var s strings.Builder
	for name, n := range d.Files() {
		b, e := d.Read(name)
		lasts, f := d.Lasts(name)
		fmt.Fprintf(&s, "%s=%s/%d ", name, b, lasts)
		if len(b) != n || e != api.OK || f != api.OK {
			fmt.Fprint(&s, "wrong: ", n, e, f)
		}
	}
	fmt.Fprint(&s, d.Pending(), d.Room(), d.Dead(), d.Changes())
	return s.String()
}

// pair is a disk, and what it should be.
type pair struct {
	d *Disk
	m *model
}

// modelNames: few, so that they are met again; the last ones may not be.
func modelNames() []string { return []string{"a", "b", "c", "d", "e-1", "f.2", "", "G"} }

func pickOf(rnd *rand.Rand) []int {
	picks := make([]int, rnd.IntN(14))
	for i := range picks {
		picks[i] = rnd.IntN(12) - 1
	}
	return picks
}

// change does a change to both, and answers what both answered.
func (p pair) change(rnd *rand.Rand) (string, api.Errno, api.Errno) {
	names := modelNames()
	some := func() string {
		if rnd.IntN(20) == 0 {
			return names[rnd.IntN(len(names))]
		}
		return names[rnd.IntN(len(names)-2)]
	}
	name, to, n := some(), some(), rnd.IntN(12)-1
	b := strings.Repeat(string(rune('0'+rnd.IntN(10))), rnd.IntN(9))
	what := []string{"make", "make", "append", "append", "append", "sync", "cut", "rename", "remove", "syncdir"}[rnd.IntN(10)]
	call := fmt.Sprintf("%s(%q, %q, %q, %d)", what, name, to, b, n)
	var e api.Errno
	switch what {
	case "make":
		e = p.d.Make(name)
	case "append":
		e = p.d.Append(name, []byte(b))
	case "sync":
		e = p.d.Sync(name)
	case "cut":
		e = p.d.Cut(name, n)
	case "rename":
		e = p.d.Rename(name, to)
	case "remove":
		e = p.d.Remove(name)
	case "syncdir":
		e = p.d.SyncDir()
	}
	return call, e, p.m.call(what, name, to, b, n)
}

// expectCrashes holds losses of power against the model's: what is there is what the picks say, and a loss of power behind it changes nothing.
func (p pair) expectCrashes(t *testing.T, rnd *rand.Rand) {
	t.Helper()
	for range 3 {
		picks := pickOf(rnd)
		got, want := p.d.Crash(picks...), p.m.crash(picks)
		if textOf(got) != want.text() {
			t.Fatalf("Crash(%v):\n%s\nwant\n%s", picks, textOf(got), want.text())
		}
		if again := got.Crash(pickOf(rnd)...); textOf(again) != want.text() {
			t.Fatalf("Crash of Crash(%v):\n%s\nwant\n%s", picks, textOf(again), want.text())
		}
	}
}

// P4.1 to P4.5: whatever is done to disks, to copies of them, and to what losses of power leave of them, each is what the model is.
func TestModel(t *testing.T) {
	met := map[api.Errno]int{}
	for seed := range uint64(400) {
		rnd := rand.New(rand.NewPCG(seed, 4))
		capacity := 1 + rnd.IntN(60)
		d, _ := New(capacity)
		all := []pair{{d, newModel(capacity)}}
		for range 120 {
			p := all[rnd.IntN(len(all))]
			switch rnd.IntN(30) {
			case 0:
				n := rnd.IntN(12) - 1
				p.d.Fuse(n)
				p.m.fuse(n)
			case 1:
				n, e := rnd.IntN(8), []api.Errno{api.ErrFull, api.ErrDisk}[rnd.IntN(2)]
				expect(t, "Lay", api.OK, p.d.Lay(n, e))
				p.m.lay(n, e)
			case 2:
				all = append(all, pair{p.d.Copy(), p.m.clone()})
			case 3:
				picks := pickOf(rnd)
				all = append(all, pair{p.d.Crash(picks...), p.m.crash(picks)})
			default:
				call, got, want := p.change(rnd)
				met[want]++
				if got != want {
					t.Fatalf("%d: %s: %v; want %v", seed, call, got, want)
				}
			}
			for i, x := range all {
				if textOf(x.d) != x.m.text() {
					t.Fatalf("%d, disk %d:\n%s\nwant\n%s", seed, i, textOf(x.d), x.m.text())
				}
			}
			p.expectCrashes(t, rnd)
			if len(all) > 4 {
				all = all[1:]
			}
		}
	}
	for _, e := range []api.Errno{api.OK, api.ErrArg, api.ErrNone, api.ErrExists, api.ErrFull, api.ErrDisk, api.ErrDead} {
		if met[e] < 100 {
			t.Errorf("%v was met %d times only", e, met[e])
		}
	}
}

// P4.5, P0.2: behind each loss of power a file is a beginning of what one was, with all of it that lasted; what was synced, and is in the directory that lasts, is there.
func TestWhatLasts(t *testing.T) {
	for seed := range uint64(300) {
		rnd := rand.New(rand.NewPCG(seed, 5))
		d, _ := New(80)
		p := pair{d, newModel(80)}
		for range 60 {
			p.change(rnd)
			c := p.d.Crash(pickOf(rnd)...)
			for name := range c.Files() {
				b, _ := c.Read(name)
				expectFile(t, c, name, string(b), len(b))
				begins := false
				for i, was := range p.m.bytes {
					begins = begins || strings.HasPrefix(was, string(b)) && len(b) >= p.m.lasts[i]
				}
				if !begins {
					t.Fatalf("%d: %s: %q is no beginning of anything that was there", seed, name, b)
				}
			}
			if len(p.m.list) > 0 {
				continue
			}
			for _, n := range p.m.then {
				b, e := c.Read(n.name)
				was, lasts := p.m.bytes[n.file], p.m.lasts[n.file]
				if e != api.OK || len(b) < lasts || !strings.HasPrefix(was, string(b)) {
					t.Fatalf("%d: %s: %q %v; it was %q, of which %d last", seed, n.name, b, e, was, lasts)
				}
			}
		}
	}
}
