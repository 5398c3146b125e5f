package log_test

import (
	"encoding/binary"
	"fmt"
	"hash/crc32"
	"math"
	"math/rand/v2"
	"slices"
	"strings"
	"testing"

	"drover/api"
	"drover/disk"
	"drover/log"
)

const (
	headSize = 8       // bytes of a record ahead of its own
	mostDisk = 1 << 26 // bytes of the greatest disk
)

// head is what stands ahead of a record's bytes, by the library.
func head(n, sum uint32) string {
	b := binary.BigEndian.AppendUint32(nil, n)
	return string(binary.BigEndian.AppendUint32(b, sum))
}

// record is a record of these bytes, by the library.
func record(rec string) string {
	return head(uint32(len(rec)), crc32.ChecksumIEEE([]byte(rec))) + rec
}

// records are records, one behind the other.
func records(recs ...string) string {
	var all strings.Builder
	for _, rec := range recs {
		all.WriteString(record(rec))
	}
	return all.String()
}

// wholeOf are the bytes of the whole records of s: a second decoder, which peels them off one by one.
func wholeOf(s string) []string {
	if len(s) < headSize {
		return nil
	}
	n := uint64(binary.BigEndian.Uint32([]byte(s[:4])))
	if n < 1 || n > 1<<20 || n > uint64(len(s)-headSize) {
		return nil
	}
	size := headSize + int(n)
	if rec := s[headSize:size]; record(rec) == s[:size] {
		return append([]string{rec}, wholeOf(s[size:])...)
	}
	return nil
}

// brief is v as far as it is of use in a test's answer.
func brief(v any) string {
	s := fmt.Sprintf("%q", v)
	return s[:min(len(s), 200)]
}

// want tells what a call answered, if it was not that.
func want(t *testing.T, call string, got, e api.Errno) {
	t.Helper()
	if got != e {
		t.Errorf("%s: error %d, want %d", call, got, e)
	}
}

// diskOf is a disk of at most so many bytes that has these, all synced.
func diskOf(t *testing.T, most int, all string) *disk.Disk {
	t.Helper()
	d, e := disk.New(most)
	want(t, "New", e, api.OK)
	want(t, "Append", d.Append([]byte(all)), api.OK)
	want(t, "Sync", d.Sync(), api.OK)
	return d
}

// has tells what is on d, if it is not that, all of it synced.
func has(t *testing.T, d *disk.Disk, all string) {
	t.Helper()
	b, e := d.Read()
	if string(b) != all || e != api.OK || d.Synced() != len(all) {
		t.Errorf("the disk has %s, %d, Synced %d; want %s", brief(b), e, d.Synced(), brief(all))
	}
}

// texts are lists of bytes as texts.
func texts(recs [][]byte) []string {
	var out []string
	for _, rec := range recs {
		out = append(out, string(rec))
	}
	return out
}

// counts tells what l counts, if these are not its records.
func counts(t *testing.T, l *log.Log, recs ...string) {
	t.Helper()
	if l.Len() != len(recs) || l.Bytes() != len(records(recs...)) {
		t.Errorf("Len %d, Bytes %d; want %d, %d", l.Len(), l.Bytes(), len(recs), len(records(recs...)))
	}
}

// opened is the log of d; it tells which records Open told, if these are not they.
func opened(t *testing.T, d *disk.Disk, recs ...string) *log.Log {
	t.Helper()
	l, got, e := log.Open(d)
	if l == nil || e != api.OK || !slices.Equal(texts(got), recs) {
		t.Fatalf("Open = %v, %s, %d; want %s", l, brief(got), e, brief(recs))
	}
	counts(t, l, recs...)
	return l
}

// refused tells what Open of d answered, if it was not that error and nothing else.
func refused(t *testing.T, d *disk.Disk, e api.Errno) {
	t.Helper()
	if l, recs, got := log.Open(d); l != nil || len(recs) != 0 || got != e {
		t.Errorf("Open = %v, %s, %d; want error %d", l, brief(recs), got, e)
	}
}

// added adds these to l.
func added(t *testing.T, l *log.Log, recs ...string) {
	t.Helper()
	for _, rec := range recs {
		want(t, "Add("+brief(rec)+")", l.Add([]byte(rec)), api.OK)
	}
}

// The chapter's examples.
func TestExamples(t *testing.T) {
	d := diskOf(t, 100, "")
	l := opened(t, d)
	added(t, l, "a")
	has(t, d, "\x00\x00\x00\x01\xe8\xb7\xbe\x43a")
	counts(t, l, "a")
	want(t, "Append", d.Append([]byte("xyz")), api.OK)
	opened(t, d, "a")
	has(t, d, record("a"))
	d.Arm(0)
	want(t, "Sync", d.Sync(), api.ErrDown)
	refused(t, d, api.ErrDown)
}

// Words: a record's bytes. P5.2: what is added is behind what was there, and synced.
func TestAdd(t *testing.T) {
	d := diskOf(t, 1<<22, "")
	l := opened(t, d)
	var recs []string
	for _, rec := range []string{"a", "\x00", "\xff\xff", "abc", "abc", record("in"), strings.Repeat("0123456789abcdef", 16), strings.Repeat("x", 255), strings.Repeat("y", 256), strings.Repeat("z", 65536), strings.Repeat("\x80", 70001)} {
		added(t, l, rec)
		recs = append(recs, rec)
		counts(t, l, recs...)
		has(t, d, records(recs...))
		d.Crash(0)
		has(t, d, records(recs...))
	}
	l = opened(t, d, recs...)
	added(t, l, "more")
	counts(t, l, append(recs, "more")...)
	opened(t, d, append(recs, "more")...)
}

// P5.2, limits: a record of the most bytes, and one of one more.
func TestLongest(t *testing.T) {
	longest := strings.Repeat("0123456789abcdef", 1<<16)
	d := diskOf(t, mostDisk, "")
	l := opened(t, d)
	for _, more := range []int{1, 2, 1 << 20, 1 << 24} {
		want(t, fmt.Sprintf("Add of %d bytes too much", more), l.Add(make([]byte, len(longest)+more)), api.ErrLong)
		counts(t, l)
		has(t, d, "")
	}
	added(t, l, longest[1:], longest, "a")
	counts(t, l, longest[1:], longest, "a")
	opened(t, d, longest[1:], longest, "a")
	has(t, d, records(longest[1:], longest, "a"))

	opened(t, diskOf(t, mostDisk, record("a")+record(longest+"!")+record("b")), "a")
}

// P5.2: what Add refuses is no operation, and changes nothing.
func TestAddRefuses(t *testing.T) {
	d := diskOf(t, 100, record("ab"))
	l := opened(t, d, "ab")
	d.Arm(2)
	for range 3 {
		want(t, "Add(nil)", l.Add(nil), api.ErrArg)
		want(t, "Add of no bytes", l.Add([]byte{}), api.ErrArg)
		want(t, "Add of no bytes with room", l.Add(make([]byte, 0, 8)), api.ErrArg)
		want(t, "Add of too much", l.Add(make([]byte, api.MaxRecord+1)), api.ErrLong)
		want(t, "Add of what has no room", l.Add(make([]byte, 100)), api.ErrFull)
		counts(t, l, "ab")
		has(t, d, record("ab"))
	}
	added(t, l, "c")
	want(t, "third operation", l.Add([]byte("d")), api.ErrDown)
}

// P5.2: an Add is two operations of the disk, Append and Sync; behind the failure of either the log takes no more.
func TestAddDown(t *testing.T) {
	for ops := range 2 {
		d := diskOf(t, 100, record("a"))
		l, twin := opened(t, d, "a"), opened(t, d, "a")
		d.Arm(ops)
		want(t, "Add", l.Add([]byte("b")), api.ErrDown)
		counts(t, l, "a")
		if size := len(record("a")) + ops*len(record("b")); d.Size() != size || d.Synced() != len(record("a")) || !d.Down() {
			t.Errorf("behind %d operations: Size %d, Synced %d, Down %v", ops, d.Size(), d.Synced(), d.Down())
		}
		shut := func(when string) {
			t.Helper()
			for range 2 {
				want(t, when+": Add", l.Add([]byte("c")), api.ErrDown)
				want(t, when+": Add of no room", l.Add(make([]byte, 200)), api.ErrDown)
				want(t, when+": Add(nil)", l.Add(nil), api.ErrArg)
				want(t, when+": Add of too much", l.Add(make([]byte, api.MaxRecord+1)), api.ErrLong)
				counts(t, l, "a")
			}
		}
		shut("down")
		d.Crash(0)
		shut("up again")
		has(t, d, record("a"))
		added(t, twin, "t") // a log of its own, which saw no error
		added(t, opened(t, d, "a", "t"), "d")
		shut("opened again")
		opened(t, d, "a", "t", "d")
	}
}

// P5.2: an Add at a disk that is down already shuts the log, too; a failure that no Add met does not.
func TestDownElsewhere(t *testing.T) {
	d := diskOf(t, 100, record("a"))
	l := opened(t, d, "a")
	d.Arm(0)
	want(t, "Sync", d.Sync(), api.ErrDown)
	counts(t, l, "a")
	d.Crash(0)
	added(t, l, "b")
	d.Arm(0)
	want(t, "Sync", d.Sync(), api.ErrDown)
	want(t, "Add(nil)", l.Add(nil), api.ErrArg)
	want(t, "Add of too much", l.Add(make([]byte, api.MaxRecord+1)), api.ErrLong)
	d.Crash(0)
	added(t, l, "c") // what was refused ahead of the disk has not shut it
	d.Arm(0)
	want(t, "Sync", d.Sync(), api.ErrDown)
	want(t, "Add", l.Add([]byte("d")), api.ErrDown)
	d.Crash(0)
	want(t, "Add", l.Add([]byte("d")), api.ErrDown)
	opened(t, d, "a", "b", "c")
}

// P5.2: behind ErrFull the log goes on.
func TestFull(t *testing.T) {
	for most := range 30 {
		d := diskOf(t, most, "")
		l := opened(t, d)
		var recs []string
		for _, rec := range []string{"abcdefghijklmnopqrstu", "abc", "abcd", "ab", "a", "b", "c"} {
			e := api.OK
			if len(records(recs...))+len(record(rec)) > most {
				e = api.ErrFull
			} else {
				recs = append(recs, rec)
			}
			want(t, fmt.Sprintf("most %d: Add(%s)", most, rec), l.Add([]byte(rec)), e)
			counts(t, l, recs...)
			has(t, d, records(recs...))
		}
		opened(t, d, recs...)
	}
}

// P5.2: an error of the disk's that is no ErrDown: told as it is, and ErrDown from then on.
func TestDiskGone(t *testing.T) {
	d, other := diskOf(t, 100, ""), diskOf(t, 100, "")
	l := opened(t, d)
	added(t, l, "a")
	was := *d
	*d = *other // a copy, which New did not make
	want(t, "Add", l.Add([]byte("b")), api.ErrNil)
	want(t, "Add", l.Add([]byte("b")), api.ErrDown)
	*d = was
	want(t, "Add", l.Add([]byte("b")), api.ErrDown)
	counts(t, l, "a")
	has(t, d, record("a"))
}

// P5.1: Read's errors; R5: of a disk that New did not make.
func TestOpenRefuses(t *testing.T) {
	d := diskOf(t, 100, record("a"))
	twin := *d
	refused(t, nil, api.ErrNil)
	refused(t, &disk.Disk{}, api.ErrNil)
	refused(t, &twin, api.ErrNil)
	d.Arm(0)
	want(t, "Sync", d.Sync(), api.ErrDown)
	refused(t, d, api.ErrDown)
	d.Crash(0)
	opened(t, d, "a")
}

// P5.1: Cut's error, and that Cut is asked for only where bytes are behind the whole records.
func TestOpenCuts(t *testing.T) {
	for _, recs := range [][]string{nil, {"a"}, {"abc", "d"}} {
		all := records(recs...)
		d := diskOf(t, 100, all)
		d.Arm(0)
		for range 3 {
			opened(t, d, recs...)
			has(t, d, all)
		}
		want(t, "Sync", d.Sync(), api.ErrDown)

		d = diskOf(t, 100, all)
		want(t, "Append", d.Append([]byte(record("x"))), api.OK)
		opened(t, d, append(slices.Clone(recs), "x")...)
		if d.Synced() != len(all) {
			t.Errorf("Open has synced %d bytes", d.Synced())
		}
		want(t, "Append", d.Append([]byte("torn")), api.OK)
		opened(t, d, append(slices.Clone(recs), "x")...)
		has(t, d, all+record("x"))

		for _, torn := range []string{"t", "torn", record("torn")[1:], "\x00", head(0, 0)} {
			d = diskOf(t, 100, all+torn)
			d.Arm(0)
			refused(t, d, api.ErrDown)
			if d.Size() != len(all+torn) || !d.Down() {
				t.Errorf("a Cut that failed: Size %d, Down %v", d.Size(), d.Down())
			}
			refused(t, d, api.ErrDown)
			d.Crash(0)
			has(t, d, all+torn)
			d.Arm(1)
			l := opened(t, d, recs...)
			has(t, d, all)
			want(t, "Add behind one operation", l.Add([]byte("b")), api.ErrDown)
		}
	}
}

// Words: where the whole records end.
func TestWhole(t *testing.T) {
	sum := crc32.ChecksumIEEE([]byte("abc"))
	good, longest := record("good"), strings.Repeat("m", 1<<20)
	for _, bad := range []string{
		head(0, 0),
		head(0, 0) + "abc",
		head(0, sum) + "abc",
		strings.Repeat("\x00", 100),
		head(3, sum),
		head(3, sum) + "ab",
		head(3, sum+1) + "abc",
		head(3, 0) + "abc",
		head(3, ^sum) + "abc",
		head(2, sum) + "abc",
		head(4, sum) + "abc",
		head(3, sum) + "abd",
		string(binary.LittleEndian.AppendUint32(nil, 3)) + head(3, sum)[4:] + "abc",
		head(3, sum)[:4] + string(binary.LittleEndian.AppendUint32(nil, sum)) + "abc",
		head(1<<24, 0),
		head(math.MaxInt32, 0) + "abc",
		head(1<<31, 0),
		head(1<<31+3, sum) + "abc",
		head(math.MaxUint32, 0),
		head(math.MaxUint32-7, crc32.ChecksumIEEE(nil)) + "abc",
		record(longest + "m"),
		record(longest)[:8+1<<20-1],
	} {
		for _, recs := range [][]string{nil, {"good"}, {"good", "a", longest}} {
			all := records(recs...)
			for _, behind := range []string{"", good} { // what is behind a bad one is gone with it
				if whole := wholeOf(all + bad + behind); !slices.Equal(whole, recs) {
					t.Fatalf("%s behind %s are %s", brief(bad+behind), brief(recs), brief(whole))
				}
				d := diskOf(t, mostDisk, all+bad+behind)
				l := opened(t, d, recs...)
				has(t, d, all)
				added(t, l, "new")
				opened(t, d, append(slices.Clone(recs), "new")...)
			}
		}
	}
	opened(t, diskOf(t, mostDisk, record(longest)+record("b")), longest, "b")
}

// P5.1, P5.3: of each torn prefix of records all are told that are whole; the rest is cut off.
func TestTornPrefix(t *testing.T) {
	recs := []string{"a", "bcd", "\x00", record("e"), strings.Repeat("f", 300)}
	all := records(recs...)
	for n := range len(all) + 1 {
		left := recs
		for len(records(left...)) > n {
			left = left[:len(left)-1]
		}
		d := diskOf(t, 1000, all[:n])
		l := opened(t, d, left...)
		has(t, d, records(left...))
		added(t, l, "next")
		opened(t, d, append(slices.Clone(left), "next")...)
	}
}

// Words: no bit of a record may be another one; the records ahead of it are told.
func TestEachBit(t *testing.T) {
	recs := []string{"abc", "defg", "h"}
	all := records(recs...)
	for bit := range 8 * len(all) {
		b := []byte(all)
		b[bit/8] ^= 1 << (bit % 8)
		left := recs
		for len(records(left...)) > bit/8 {
			left = left[:len(left)-1]
		}
		d := diskOf(t, 100, string(b))
		opened(t, d, left...)
		has(t, d, records(left...))
	}
}

// P5.1: bytes by chance (always the same), against a second decoder.
func TestOpenByChance(t *testing.T) {
	r := rand.New(rand.NewPCG(5, 1))
	for range 20000 {
		var b []byte
		for range r.IntN(5) {
			rec := make([]byte, r.IntN(12))
			for i := range rec {
				rec[i] = byte(r.IntN(3))
			}
			b = append(b, record(string(rec))...)
		}
		if len(b) > 0 && r.IntN(2) == 0 {
			b[r.IntN(len(b))] = byte(r.IntN(256))
		}
		b = b[:len(b)-r.IntN(min(len(b), 10)+1)]
		d := diskOf(t, 200, string(b))
		recs := wholeOf(string(b))
		opened(t, d, recs...)
		has(t, d, records(recs...))
	}
}

// R3: what is handed in is neither changed nor kept; what is handed out is new, each list for itself.
func TestOwnMemory(t *testing.T) {
	d := diskOf(t, 1000, "")
	l := opened(t, d)
	room := []byte("abcXYZ")
	want(t, "Add", l.Add(room[:3]), api.OK)
	if string(room) != "abcXYZ" {
		t.Errorf("what was handed in is now %q", room)
	}
	copy(room, "......")
	added(t, l, "de", "f")
	all := records("abc", "de", "f")
	has(t, d, all)

	_, one, _ := log.Open(d)
	_, two, _ := log.Open(d)
	for i, rec := range one {
		room := rec[:cap(rec)]
		for j := range room {
			room[j] = '!'
		}
		for k, other := range one {
			if k > i && string(other) != string(two[k]) || k < i && string(other) != "###"[:len(other)] {
				t.Errorf("record %d and its room, written over, make record %d %q", i, k, other)
			}
		}
		copy(rec, "###")
	}
	if got := texts(two); !slices.Equal(got, []string{"abc", "de", "f"}) {
		t.Errorf("another answer is now %q", got)
	}
	has(t, d, all)
	want(t, "Cut", d.Cut(0), api.OK)
	want(t, "Append", d.Append([]byte(strings.Repeat("x", len(all)))), api.OK)
	if got := texts(two); !slices.Equal(got, []string{"abc", "de", "f"}) {
		t.Errorf("behind what the disk did an answer is %q", got)
	}
}

// A log shares the disk that it was handed: what each of two has added is there, and each counts its own.
func TestShared(t *testing.T) {
	d := diskOf(t, 1000, "")
	one, two := opened(t, d), opened(t, d)
	added(t, one, "a", "bc")
	added(t, two, "d")
	added(t, one, "e")
	counts(t, one, "a", "bc", "e")
	counts(t, two, "d")
	opened(t, d, "a", "bc", "d", "e")
}

// R5: of a log that Open did not make.
func TestNotMade(t *testing.T) {
	d := diskOf(t, 100, record("a"))
	made := opened(t, d, "a")
	twin := *made
	for name, l := range map[string]*log.Log{"nil": nil, "zero": {}, "new": new(log.Log), "copy": &twin} {
		want(t, name+": Add", l.Add([]byte("b")), api.ErrNil)
		want(t, name+": Add(nil)", l.Add(nil), api.ErrNil)
		want(t, name+": Add of too much", l.Add(make([]byte, api.MaxRecord+1)), api.ErrNil)
		if l.Len() != 0 || l.Bytes() != 0 {
			t.Errorf("%s: Len %d, Bytes %d", name, l.Len(), l.Bytes())
		}
	}
	has(t, d, record("a"))
	d.Arm(0)
	want(t, "Add", made.Add([]byte("b")), api.ErrDown)
	shutTwin := *made
	want(t, "copy of one that is shut: Add", shutTwin.Add([]byte("b")), api.ErrNil)
	counts(t, made, "a")
}

// life adds these to the log of d, whose power fails behind so many operations, and crashes it; it tells how many were OK, and which one was not.
func life(t *testing.T, d *disk.Disk, l *log.Log, recs []string, ops, keep int) (int, string) {
	t.Helper()
	ok, failed := 0, ""
	d.Arm(ops)
	for _, rec := range recs {
		e := l.Add([]byte(rec))
		if e != api.OK && e != api.ErrDown || e == api.OK && failed != "" {
			t.Fatalf("Add = %d", e)
		}
		if e == api.OK {
			ok++
		} else if failed == "" {
			failed = rec
		}
	}
	d.Crash(keep)
	return ok, failed
}

// P5.3: each place where the power may fail, and each torn prefix that may be left, of a log with records of an earlier life.
func TestEachCrash(t *testing.T) {
	earlier, recs := []string{"one", "two"}, []string{"abc", "d", "efghi"}
	for ops := range 2*len(recs) + 1 {
		for keep := -1; keep <= len(records(recs...))+1; keep++ {
			d := diskOf(t, 1000, records(earlier...))
			ok, failed := life(t, d, opened(t, d, earlier...), recs, ops, keep)
			if ok != ops/2 {
				t.Errorf("%d operations: %d records OK", ops, ok)
			}
			left := slices.Concat(earlier, recs[:ok])
			// Its Append was done, but not its Sync; all of it was left.
			if ops%2 == 1 && keep >= len(record(failed)) {
				left = append(left, failed)
			}
			added(t, opened(t, d, left...), "new")
			d.Crash(0)
			opened(t, d, append(left, "new")...)
		}
	}
}

// P5.3: many lives of one disk by chance (always the same); in some the power fails as the log is opened.
func TestManyLives(t *testing.T) {
	r := rand.New(rand.NewPCG(5, 3))
	cutsFailed := 0
	for range 300 {
		d := diskOf(t, 1<<16, "")
		sure := []string{}
		for range 20 {
			l, got, e := log.Open(d)
			if e == api.ErrDown {
				cutsFailed++
				d.Crash(r.IntN(100))
				continue
			}
			if e != api.OK || !slices.Equal(texts(got), sure) {
				t.Fatalf("Open = %s, %d; want %s", brief(got), e, brief(sure))
			}
			var recs []string
			for range r.IntN(6) {
				recs = append(recs, strings.Repeat(string(rune('a'+r.IntN(26))), 1+r.IntN(20)))
			}
			ok, failed := life(t, d, l, recs, r.IntN(12), r.IntN(40))
			sure = append(sure, recs[:ok]...)
			b, _ := d.Read()
			whole := wholeOf(string(b))
			if failed != "" && len(whole) == len(sure)+1 && whole[len(sure)] == failed {
				sure = append(sure, failed)
			}
			if !slices.Equal(whole, sure) {
				t.Fatalf("behind a crash the disk has %s; want %s", brief(whole), brief(sure))
			}
			if r.IntN(3) == 0 {
				d.Arm(0)
			}
		}
	}
	if cutsFailed == 0 {
		t.Error("no power failed as a log was opened")
	}
}
