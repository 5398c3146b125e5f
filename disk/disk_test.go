package disk_test

import (
	"fmt"
	"math"
	"math/rand/v2"
	"strings"
	"testing"

	"drover/api"
	"drover/disk"
)

const mostOfAll = 1 << 26 // bytes of the greatest disk

// fresh is a disk of at most so many bytes.
func fresh(t *testing.T, most int) *disk.Disk {
	t.Helper()
	d, e := disk.New(most)
	if d == nil || e != api.OK {
		t.Fatalf("New(%d) = %v, %d", most, d, e)
	}
	return d
}

// filled is a disk of at most 100 bytes that has these, of which the first ones are synced.
func filled(t *testing.T, synced, more string) *disk.Disk {
	t.Helper()
	d := fresh(t, 100)
	want(t, "Append", d.Append([]byte(synced)), api.OK)
	want(t, "Sync", d.Sync(), api.OK)
	want(t, "Append", d.Append([]byte(more)), api.OK)
	holds(t, d, synced+more, len(synced))
	return d
}

// want tells what a call answered, if it was not that.
func want(t *testing.T, call string, got, e api.Errno) {
	t.Helper()
	if got != e {
		t.Errorf("%s: error %d, want %d", call, got, e)
	}
}

// holds tells what d has, if it is up and that is not it.
func holds(t *testing.T, d *disk.Disk, all string, synced int) {
	t.Helper()
	b, e := d.Read()
	if string(b) != all || e != api.OK || d.Size() != len(all) || d.Synced() != synced || d.Down() {
		t.Errorf("Read %q, %d, Size %d, Synced %d, Down %v; want %q, of which %d synced", b, e, d.Size(), d.Synced(), d.Down(), all, synced)
	}
}

// isDown tells what d answers, if it is not down with so many bytes.
func isDown(t *testing.T, d *disk.Disk, size, synced int) {
	t.Helper()
	b, e := d.Read()
	if len(b) != 0 || e != api.ErrDown || d.Size() != size || d.Synced() != synced || !d.Down() {
		t.Errorf("Read %q, %d, Size %d, Synced %d, Down %v; want it down with %d bytes, of which %d synced", b, e, d.Size(), d.Synced(), d.Down(), size, synced)
	}
}

// operations are one of each kind that nothing refuses at a disk of one byte at least with room for one more.
func operations() map[string]func(d *disk.Disk) api.Errno {
	return map[string]func(d *disk.Disk) api.Errno{
		"Append": func(d *disk.Disk) api.Errno { return d.Append([]byte("x")) },
		"none":   func(d *disk.Disk) api.Errno { return d.Append(nil) },
		"Sync":   (*disk.Disk).Sync,
		"Cut":    func(d *disk.Disk) api.Errno { return d.Cut(1) },
	}
}

// The chapter's examples.
func TestExamples(t *testing.T) {
	d := filled(t, "abc", "de")
	d.Crash(1)
	holds(t, d, "abcd", 4)
	d.Arm(1)
	want(t, "first Append", d.Append([]byte("f")), api.OK)
	want(t, "second Append", d.Append([]byte("g")), api.ErrDown)
	isDown(t, d, 5, 4)
	d.Crash(0)
	holds(t, d, "abcd", 4)
}

// P4.1: New.
func TestNew(t *testing.T) {
	for _, most := range []int{-1, -2, -mostOfAll, math.MinInt, mostOfAll + 1, 1 << 27, 1 << 32, math.MaxInt} {
		if d, e := disk.New(most); d != nil || e != api.ErrArg {
			t.Errorf("New(%d) = %v, %d", most, d, e)
		}
	}
	for _, most := range []int{0, 1, 2, 100, 1 << 20, mostOfAll - 1, mostOfAll} {
		d := fresh(t, most)
		holds(t, d, "", 0)
		for range 100 { // not armed
			want(t, "Sync", d.Sync(), api.OK)
			want(t, "Append of none", d.Append(nil), api.OK)
			want(t, "Cut(0)", d.Cut(0), api.OK)
		}
		holds(t, d, "", 0)
	}
	a, b := fresh(t, 10), fresh(t, 10)
	want(t, "Append", a.Append([]byte("a")), api.OK)
	a.Arm(0)
	want(t, "Sync", a.Sync(), api.ErrDown)
	holds(t, b, "", 0)
}

// P4.1: Append.
func TestAppend(t *testing.T) {
	d := fresh(t, 10)
	for _, s := range []string{"abc", "", "d", "\x00\xff"} {
		had, _ := d.Read()
		want(t, "Append", d.Append([]byte(s)), api.OK)
		holds(t, d, string(had)+s, 0)
	}
	want(t, "Append of none", d.Append(nil), api.OK)
	want(t, "Append of 5 more", d.Append(make([]byte, 5)), api.ErrFull)
	holds(t, d, "abcd\x00\xff", 0)
	want(t, "Append of 4 more", d.Append([]byte("wxyz")), api.OK)
	holds(t, d, "abcd\x00\xffwxyz", 0)
	want(t, "Append at most", d.Append([]byte("!")), api.ErrFull)
	want(t, "Append of none at most", d.Append([]byte{}), api.OK)
	want(t, "Cut", d.Cut(9), api.OK)
	want(t, "Append behind Cut", d.Append([]byte("12")), api.ErrFull)
	want(t, "Append behind Cut", d.Append([]byte("1")), api.OK)
	holds(t, d, "abcd\x00\xffwxy1", 9)
}

// P4.1: how much there is room for.
func TestMost(t *testing.T) {
	d := fresh(t, 0)
	want(t, "Append of 1 to most 0", d.Append([]byte("a")), api.ErrFull)
	holds(t, d, "", 0)
	d = fresh(t, 1)
	want(t, "Append of 2 to most 1", d.Append([]byte("ab")), api.ErrFull)
	want(t, "Append of 1 to most 1", d.Append([]byte("a")), api.OK)
	want(t, "Append behind it", d.Append([]byte("a")), api.ErrFull)
	holds(t, d, "a", 0)

	d = fresh(t, mostOfAll)
	huge := make([]byte, mostOfAll+1)
	want(t, "Append of too much to the greatest", d.Append(huge), api.ErrFull)
	want(t, "Append of all but one", d.Append(huge[:mostOfAll-1]), api.OK)
	want(t, "Append of two more", d.Append([]byte("yz")), api.ErrFull)
	want(t, "Append of the last", d.Append([]byte("z")), api.OK)
	want(t, "Append at most", d.Append([]byte("!")), api.ErrFull)
	want(t, "Sync", d.Sync(), api.OK)
	d.Crash(0)
	if b, e := d.Read(); len(b) != mostOfAll || b[mostOfAll-1] != 'z' || e != api.OK || d.Synced() != mostOfAll {
		t.Errorf("Read of the greatest: %d bytes, %d", len(b), e)
	}
}

// P4.1: Sync and Cut.
func TestSyncCut(t *testing.T) {
	d := filled(t, "abc", "de")
	want(t, "Sync", d.Sync(), api.OK)
	holds(t, d, "abcde", 5)
	want(t, "Sync again", d.Sync(), api.OK)
	holds(t, d, "abcde", 5)
	want(t, "Append", d.Append([]byte("f")), api.OK)
	holds(t, d, "abcdef", 5)

	all := "abcde"
	for synced := range len(all) + 1 {
		for n := range len(all) + 1 {
			d := filled(t, all[:synced], all[synced:])
			want(t, "Cut", d.Cut(n), api.OK)
			holds(t, d, all[:n], n)
			want(t, "Append", d.Append([]byte("xy")), api.OK)
			holds(t, d, all[:n]+"xy", n)
		}
		d := filled(t, all[:synced], all[synced:])
		for _, n := range []int{-1, math.MinInt, 6, 7, 100, 101, math.MaxInt} {
			want(t, fmt.Sprintf("Cut(%d)", n), d.Cut(n), api.ErrArg)
			holds(t, d, all, synced)
		}
	}
}

// P4.2: of an armed disk so many operations are done, of whatever kind, and the next one fails its power and does nothing.
func TestArm(t *testing.T) {
	for name, do := range operations() {
		for _, n := range []int{0, 1, 2, 3, 7, 50, -1, -5, math.MinInt} {
			d := filled(t, "abc", "de")
			d.Arm(n)
			holds(t, d, "abcde", 3)
			for range max(n, 0) {
				want(t, name, do(d), api.OK)
			}
			b, e := d.Read()
			if e != api.OK || d.Down() {
				t.Errorf("%s: %d operations and down already", name, n)
			}
			size, synced := d.Size(), d.Synced()
			want(t, name+" that fails", do(d), api.ErrDown)
			isDown(t, d, size, synced)
			d.Crash(math.MaxInt)
			holds(t, d, string(b), len(b))
			for range 60 { // and armed no more
				want(t, name, do(d), api.OK)
				want(t, "Cut", d.Cut(1), api.OK)
			}
		}
	}
	d := filled(t, "abc", "de")
	d.Arm(math.MaxInt)
	want(t, "Sync", d.Sync(), api.OK)
	holds(t, d, "abcde", 5)
}

// P4.2: who is armed again has the later number; who is down is not armed.
func TestArmAgain(t *testing.T) {
	d := filled(t, "abc", "de")
	d.Arm(0)
	d.Arm(2)
	want(t, "first Sync", d.Sync(), api.OK)
	d.Arm(3)
	for range 3 {
		want(t, "Sync", d.Sync(), api.OK)
	}
	want(t, "Sync", d.Sync(), api.ErrDown)
	for _, n := range []int{0, 5, -1} {
		d.Arm(n)
		want(t, "Sync of one that is down", d.Sync(), api.ErrDown)
		isDown(t, d, 5, 5)
	}
	d.Crash(0)
	for range 10 {
		want(t, "Sync of one that is up again", d.Sync(), api.OK)
	}
	d.Arm(9)
	d.Arm(0)
	want(t, "Sync", d.Sync(), api.ErrDown)
}

// P4.1: what is refused is no operation; nor are the calls that only tell.
func TestRefusedTakesNothing(t *testing.T) {
	d := fresh(t, 3)
	want(t, "Append", d.Append([]byte("abc")), api.OK)
	for _, n := range []int{0, 1, 2} {
		d.Arm(n)
		for range 10 {
			want(t, "Append of too much", d.Append([]byte("d")), api.ErrFull)
			want(t, "Cut(-1)", d.Cut(-1), api.ErrArg)
			want(t, "Cut(4)", d.Cut(4), api.ErrArg)
			holds(t, d, "abc", d.Synced())
		}
		for range n {
			want(t, "Sync", d.Sync(), api.OK)
		}
		want(t, "Append of too much", d.Append([]byte("d")), api.ErrFull)
		want(t, "Sync", d.Sync(), api.ErrDown)
		d.Crash(9)
	}
}

// The errors' order: a disk that is down says so ahead of all that it would refuse.
func TestDown(t *testing.T) {
	d := filled(t, "abc", "de")
	d.Arm(0)
	want(t, "Sync", d.Sync(), api.ErrDown)
	for range 3 {
		want(t, "Append of none", d.Append(nil), api.ErrDown)
		want(t, "Append", d.Append([]byte("f")), api.ErrDown)
		want(t, "Append of too much", d.Append(make([]byte, 101)), api.ErrDown)
		want(t, "Sync", d.Sync(), api.ErrDown)
		for _, n := range []int{-1, 0, 3, 5, 6, math.MaxInt} {
			want(t, fmt.Sprintf("Cut(%d)", n), d.Cut(n), api.ErrDown)
		}
		isDown(t, d, 5, 3)
	}
	d.Crash(1)
	holds(t, d, "abcd", 4)
}

// P4.2, P4.3: Crash, of a disk that is up, armed or down.
func TestCrash(t *testing.T) {
	all := "abcdef"
	for synced := range len(all) + 1 {
		for _, keep := range []int{math.MinInt, -7, -1, 0, 1, 2, 3, 4, 5, 6, 7, 100, math.MaxInt - 2, math.MaxInt} {
			left := all[:synced+min(max(keep, 0), len(all)-synced)]
			for _, how := range []string{"up", "armed", "down"} {
				d := filled(t, all[:synced], all[synced:])
				if how != "up" {
					d.Arm(0)
				}
				if how == "down" {
					want(t, "Append", d.Append([]byte("g")), api.ErrDown)
				}
				d.Crash(keep)
				holds(t, d, left, len(left))
				want(t, "Append", d.Append([]byte("hi")), api.OK)
				holds(t, d, left+"hi", len(left))
				d.Crash(0)
				holds(t, d, left, len(left))
			}
		}
	}
	d := fresh(t, 0)
	d.Crash(5)
	holds(t, d, "", 0)
}

// P4.2: Read's bytes are the caller's own; R3: what is handed in is neither changed nor kept.
func TestOwnMemory(t *testing.T) {
	d := fresh(t, 100)
	room := []byte("abcXYZ")
	b := room[:3]
	want(t, "Append", d.Append(b), api.OK)
	copy(room, "......")
	holds(t, d, "abc", 0)
	copy(room, "abcXYZ")
	want(t, "Append", d.Append(b), api.OK)
	want(t, "Append", d.Append([]byte("defgh")), api.OK)
	if string(room) != "abcXYZ" {
		t.Errorf("what was handed in is now %q", room)
	}
	first, _ := d.Read()
	second, _ := d.Read()
	clear(first[:cap(first)])
	if string(second) != "abcabcdefgh" {
		t.Errorf("two answers share memory: %q", second)
	}
	holds(t, d, "abcabcdefgh", 0)
	want(t, "Append", d.Append([]byte("i")), api.OK)
	holds(t, d, "abcabcdefghi", 0)

	kept, _ := d.Read()
	want(t, "Cut", d.Cut(2), api.OK)
	want(t, "Append", d.Append([]byte("1234567890")), api.OK)
	if string(kept) != "abcabcdefghi" {
		t.Errorf("an answer changed: %q", kept)
	}
	_ = append(kept[:2], "!!!!"...)
	holds(t, d, "ab1234567890", 2)
}

// R5: of a disk that New did not make.
func TestNotMade(t *testing.T) {
	made := filled(t, "abc", "de")
	twin := *made
	for name, d := range map[string]*disk.Disk{"nil": nil, "zero": {}, "copy": &twin} {
		for range 2 {
			d.Arm(0)
			d.Crash(1)
			want(t, name+": Append", d.Append([]byte("a")), api.ErrNil)
			want(t, name+": Append of none", d.Append(nil), api.ErrNil)
			want(t, name+": Append of too much", d.Append(make([]byte, 101)), api.ErrNil)
			want(t, name+": Sync", d.Sync(), api.ErrNil)
			for _, n := range []int{-1, 0, 1, math.MaxInt} {
				want(t, fmt.Sprintf("%s: Cut(%d)", name, n), d.Cut(n), api.ErrNil)
			}
			if b, e := d.Read(); b != nil || e != api.ErrNil {
				t.Errorf("%s: Read = %q, %d", name, b, e)
			}
			if d.Down() || d.Size() != 0 || d.Synced() != 0 {
				t.Errorf("%s: Down %v, Size %d, Synced %d", name, d.Down(), d.Size(), d.Synced())
			}
		}
	}
	holds(t, made, "abcde", 3)
	made.Arm(0)
	want(t, "Sync", made.Sync(), api.ErrDown)
	downTwin := *made
	want(t, "copy of one that is down: Sync", downTwin.Sync(), api.ErrNil)
	if downTwin.Down() {
		t.Error("a copy of one that is down is down")
	}
	downTwin.Crash(0)
	isDown(t, made, 5, 3)
}

// told is a disk by the chapter's words, with texts that are never changed in place.
type told struct {
	most        int
	sure, maybe string // synced, and not
	up          bool
	alarm       int // below 0: not armed
}

// fails tells whether an operation finds no power.
func (m *told) fails() bool {
	m.alarm--
	if m.alarm == -1 {
		m.up = false
	}
	m.alarm = max(m.alarm, -1)
	return !m.up
}

// act is a call, of which n says what is handed in, of the disk and of what is told, and what both answer.
type act struct {
	name string
	n    int
}

func (a act) String() string { return fmt.Sprintf("%s(%d)", a.name, a.n) }

// ofDisk is what the disk answers.
func (a act) ofDisk(d *disk.Disk) api.Errno {
	switch a.name {
	case "Append":
		return d.Append([]byte(strings.Repeat("abcdefgh", a.n)[:a.n]))
	case "Sync":
		return d.Sync()
	case "Cut":
		return d.Cut(a.n)
	case "Arm":
		d.Arm(a.n)
	case "Crash":
		d.Crash(a.n)
	}
	return api.OK
}

// ofTold is what is told of a disk.
func (a act) ofTold(m *told) api.Errno {
	size := len(m.sure) + len(m.maybe)
	switch {
	case a.name == "Arm":
		if m.up {
			m.alarm = max(a.n, 0)
		}
		return api.OK
	case a.name == "Crash":
		*m = told{most: m.most, sure: m.sure + m.maybe[:min(max(a.n, 0), len(m.maybe))], up: true, alarm: -1}
		return api.OK
	case !m.up:
		return api.ErrDown
	case a.name == "Append" && size+a.n > m.most:
		return api.ErrFull
	case a.name == "Cut" && (a.n < 0 || a.n > size):
		return api.ErrArg
	case m.fails():
		return api.ErrDown
	case a.name == "Append":
		m.maybe += strings.Repeat("abcdefgh", a.n)[:a.n]
	case a.name == "Sync":
		m.sure, m.maybe = m.sure+m.maybe, ""
	case a.name == "Cut":
		m.sure, m.maybe = (m.sure + m.maybe)[:a.n], ""
	}
	return api.OK
}

// both does acts to a disk and to what is told of one, and tells where they differ, or where P4.3 does not hold.
func both(t *testing.T, most int, acts []act) bool {
	t.Helper()
	d := fresh(t, most)
	m := &told{most: most, up: true, alarm: -1}
	for i, a := range acts {
		sure, maybe := m.sure, m.maybe
		got, e := a.ofDisk(d), a.ofTold(m)
		b, readErr := d.Read()
		all, wantErr := m.sure+m.maybe, api.OK
		if !m.up {
			all, wantErr = "", api.ErrDown
		}
		if got != e || string(b) != all || readErr != wantErr || d.Down() == m.up || d.Size() != len(m.sure+m.maybe) || d.Synced() != len(m.sure) {
			t.Errorf("most %d, %v: error %d, Read %q, %d, Down %v, Size %d, Synced %d; want error %d and %+v", most, acts[:i+1], got, b, readErr, d.Down(), d.Size(), d.Synced(), e, *m)
			return false
		}
		if a.name == "Crash" && (!strings.HasPrefix(string(b), sure) || !strings.HasPrefix(sure+maybe, string(b)) || d.Synced() != len(b)) {
			t.Errorf("most %d, %v: %q is left of %q (synced) and %q", most, acts[:i+1], b, sure, maybe)
			return false
		}
	}
	return true
}

// All rows of few calls of each kind, against what the chapter's words make of them.
func TestAllShortRows(t *testing.T) {
	kinds := []act{{"Append", 0}, {"Append", 1}, {"Append", 2}, {"Sync", 0}, {"Cut", -1}, {"Cut", 0}, {"Cut", 1}, {"Cut", 2}, {"Arm", -1}, {"Arm", 0}, {"Arm", 1}, {"Crash", -1}, {"Crash", 0}, {"Crash", 1}, {"Crash", 9}}
	const long = 4
	rows := 1
	for range long {
		rows *= len(kinds)
	}
	for row := range rows {
		acts := make([]act, long+1)
		for i := range long {
			acts[i] = kinds[row%len(kinds)]
			row /= len(kinds)
		}
		acts[long] = act{"Crash", 1}
		if !both(t, 3, acts) {
			return
		}
	}
}

// Long rows by chance (always the same).
func TestLongRows(t *testing.T) {
	r := rand.New(rand.NewPCG(4, 1))
	names := []string{"Append", "Append", "Append", "Sync", "Sync", "Cut", "Arm", "Crash"}
	for range 2000 {
		acts := make([]act, 60)
		for i := range acts {
			acts[i] = act{names[r.IntN(len(names))], r.IntN(14)}
			if acts[i].name != "Append" {
				acts[i].n -= 2
			}
		}
		if !both(t, r.IntN(60), acts) {
			return
		}
	}
}
