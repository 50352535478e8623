package redo_test

import (
	"bytes"
	"encoding/binary"
	"hash/fnv"
	"math"
	"math/rand"
	"slices"
	"strings"
	"testing"

	"pantry/api"
	"pantry/disk"
	"pantry/redo"
)

const (
	size   = 64
	most   = 4096
	first  = 100 // the sector of data sector 0
	fewest = 101
)

// flush is a step that writes nothing, but flushes.
const flush = -1

// step is one call of a disk's Write or Flush.
type step struct {
	at   int
	text string
}

func change(at int, text string) redo.Change { return redo.Change{At: at, Data: []byte(text)} }

// filled is what a sector is once a text was written there.
func filled(text string) string { return text + strings.Repeat("\x00", size-len(text)) }

// is holds an answer against the one that is wanted.
func is(t *testing.T, what string, got, want api.Errno) {
	t.Helper()
	if got != want {
		t.Errorf("%s: %d, want %d", what, got, want)
	}
}

func opened(t *testing.T, d *disk.Disk) *redo.Redo {
	t.Helper()
	r, e := redo.Open(d)
	if e != api.OK || r == nil {
		t.Fatalf("Open: %d", e)
	}
	return r
}

// unopened holds that Open is answered an error, and no journal.
func unopened(t *testing.T, what string, d *disk.Disk, want api.Errno) {
	t.Helper()
	r, e := redo.Open(d)
	if e != want || r != nil {
		t.Errorf("%s: Open: %d, want %d; a journal: %v", what, e, want, r != nil)
	}
}

// told holds what a data sector is read as against a text and noughts.
func told(t *testing.T, r *redo.Redo, at int, text string) {
	t.Helper()
	if b, e := r.Read(at); e != api.OK || string(b) != filled(text) {
		t.Errorf("data sector %d: %q, %d; want %q", at, b, e, text)
	}
}

// refused holds what a data sector is read as against an error, beside which there is nothing.
func refused(t *testing.T, r *redo.Redo, at int, want api.Errno) {
	t.Helper()
	if b, e := r.Read(at); e != want || len(b) != 0 {
		t.Errorf("data sector %d: %q, %d; want %d", at, b, e, want)
	}
}

// sectors is what all sectors of a disk are read as.
func sectors(t *testing.T, d *disk.Disk) []string {
	t.Helper()
	var l []string
	for i := range d.Len() {
		b, e := d.Read(i)
		if e != api.OK {
			t.Fatalf("sector %d: %d", i, e)
		}
		l = append(l, string(b))
	}
	return l
}

// based is a disk whose every sector but the head and places has a text of its own.
func based(t *testing.T, n int) *disk.Disk {
	t.Helper()
	d := disk.New(n)
	for i := 4; i < n; i++ {
		is(t, "Write", d.Write(i, []byte{'b', byte(i >> 8), byte(i)}), api.OK)
	}
	is(t, "Flush", d.Flush(), api.OK)
	return d
}

// placesOf are the three sectors of places, as one text.
func placesOf(places ...int) string {
	b := make([]byte, 3*size)
	for i, at := range places {
		binary.BigEndian.PutUint16(b[2*i:], uint16(at))
	}
	return string(b)
}

// headOf is the head of so many changes with these sectors of places and images.
func headOf(count int, written string) string {
	two := binary.BigEndian.AppendUint16(nil, uint16(count))
	h := fnv.New32a()
	h.Write(two)
	h.Write([]byte(written))
	return filled(string(h.Sum(append([]byte{0x52, 0x44}, two...))))
}

// writtenOf is a job as it is written, behind the head.
func writtenOf(changes []redo.Change) string {
	var places []int
	images := ""
	for _, c := range changes {
		places = append(places, c.At)
		images += filled(string(c.Data))
	}
	return placesOf(places...) + images
}

// run are steps that write sectors from one on, and flush.
func run(from int, text string) []step {
	var l []step
	for i := 0; i < len(text); i += size {
		l = append(l, step{from + i/size, text[i : i+size]})
	}
	return append(l, step{flush, ""})
}

// lastSteps are the steps of a job from its changes on.
func lastSteps(changes []redo.Change) []step {
	var l []step
	for _, c := range changes {
		l = append(l, step{first + c.At, string(c.Data)})
	}
	l = append(l, step{flush, ""})
	return append(l, run(0, filled(""))...)
}

// allSteps are the steps of a whole job.
func allSteps(changes []redo.Change) []step {
	written := writtenOf(changes)
	l := run(1, written)
	l = append(l, run(0, headOf(len(changes), written))...)
	return append(l, lastSteps(changes)...)
}

// walk does steps on a disk.
func walk(t *testing.T, d *disk.Disk, steps []step) {
	t.Helper()
	for _, s := range steps {
		if s.at == flush {
			is(t, "Flush", d.Flush(), api.OK)
		} else {
			is(t, "Write", d.Write(s.at, []byte(s.text)), api.OK)
		}
	}
}

// laid is a disk on which a job stands as it is written, with its head, and no change of it.
func laid(t *testing.T, n int, head, written string) *disk.Disk {
	t.Helper()
	d := based(t, n)
	walk(t, d, run(1, written))
	walk(t, d, run(0, head))
	return d
}

// laidJob is a disk on which the power went ahead of the changes of a job.
func laidJob(t *testing.T, n int, changes []redo.Change) *disk.Disk {
	t.Helper()
	written := writtenOf(changes)
	return laid(t, n, headOf(len(changes), written), written)
}

// many is a job of n changes that neither rise nor fall, with texts of any length.
func many(n int) []redo.Change {
	var l []redo.Change
	for i := range n {
		at := 2 * i
		if i%2 == 1 {
			at = 2*n - i
		}
		l = append(l, change(at, strings.Repeat(string(rune('a'+i%26)), (i*31+n)%(size+1))))
	}
	return l
}

// keeps are some words of what stands behind a crash: all, none, and each second one.
func keeps(n int) [][]bool {
	l := make([][]bool, 4)
	for i := range n {
		l[1] = append(l[1], true)
		l[2] = append(l[2], i%2 == 0)
		l[3] = append(l[3], i%2 == 1)
	}
	return l
}

// same holds two disks against each other, by what is pending and by all that they have behind a crash.
func same(t *testing.T, what string, a, b *disk.Disk, keep []bool) {
	t.Helper()
	if got, want := a.Pending(), b.Pending(); !slices.Equal(got, want) {
		t.Errorf("%s: pending: %v, want %v", what, got, want)
	}
	a.Crash(keep...)
	b.Crash(keep...)
	got, want := sectors(t, a), sectors(t, b)
	for i := range want {
		if got[i] != want[i] {
			t.Errorf("%s: sector %d: %q, want %q", what, i, got[i], want[i])
		}
	}
}

// P16.1: a journal takes at least 101 sectors, and has the data of those behind the first hundred.
func TestLen(t *testing.T) {
	for _, n := range []int{1, 2, 3, 4, 5, 64, 99, 100} {
		unopened(t, "a small disk", disk.New(n), api.ErrRange)
	}
	for _, n := range []int{fewest, 102, 103, 164, 1000, most - 1, most} {
		r := opened(t, disk.New(n))
		if r.Len() != n-first || r.Broken() {
			t.Errorf("%d sectors: %d of data", n, r.Len())
		}
		told(t, r, 0, "")
		told(t, r, n-first-1, "")
		refused(t, r, n-first, api.ErrRange)
	}
}

// P16.1: too few sectors go ahead of any error of the disk, which is told as it is.
func TestOpenErrors(t *testing.T) {
	small := disk.New(100)
	small.Bad(0, true)
	unopened(t, "small and bad", small, api.ErrRange)
	small.Arm(0)
	small.Flush()
	unopened(t, "small and down", small, api.ErrRange)
	d := disk.New(fewest)
	d.Arm(0)
	d.Flush()
	unopened(t, "down", d, api.ErrDown)
	d.Bad(0, true)
	unopened(t, "down and bad", d, api.ErrDown)
	d.Crash()
	unopened(t, "bad", d, api.ErrSector)
	d.Bad(0, false)
	if r := opened(t, d); r.Len() != 1 {
		t.Error(r.Len())
	}
}

// P16.1: where the head is none, nothing but the head is read, and nothing is written.
func TestOpenNoHead(t *testing.T) {
	changes := []redo.Change{change(1, "x")}
	written := writtenOf(changes)
	tail := headOf(1, written)[4:]
	heads := []string{"", "\x52", "\x52\x44", "\x44\x52\x00\x01" + tail, "\x52\x45\x00\x01" + tail, "\x53\x44\x00\x01" + tail, "\x00\x44\x00\x01" + tail, "\x52\x44\x01\x00" + tail, strings.Repeat("\xff", size)}
	for _, n := range []int{0, 97, 98, 100, 255, 256, 257, 352, 0xff01, 0xffff} {
		text := written + strings.Repeat(filled("i"), 103-5)
		heads = append(heads, headOf(n, text[:min(len(text), size*(3+n))]), headOf(n, written))
	}
	for i, head := range heads {
		d := laid(t, 104, filled(head), written)
		for at := 1; at < 104; at++ {
			d.Bad(at, true)
		}
		d.Arm(0)
		opened(t, d)
		if d.Down() || len(d.Pending()) > 0 {
			t.Errorf("head %d: something was written", i)
		}
		for at := 1; at < 104; at++ {
			d.Bad(at, false)
		}
		same(t, "no head", d, laid(t, 104, filled(head), written), nil)
	}
}

// P16.1: where the head begins as one, the places and its images are read, and none of the others.
func TestOpenReads(t *testing.T) {
	for _, n := range []int{1, 2, 32, 33, 95, 96} {
		changes := many(n)
		written := writtenOf(changes)
		for _, head := range []string{headOf(n, written), filled(headOf(n, written)[:4])} {
			for at := range 400 {
				d := laid(t, 400, head, written)
				d.Bad(at, true)
				if at < 4+n {
					ahead := d.Pending()
					unopened(t, "a bad sector", d, api.ErrSector)
					if !slices.Equal(d.Pending(), ahead) {
						t.Errorf("%d changes, bad sector %d: something was written", n, at)
					}
				} else if at < 4+n+2 || at > 97 && at < 103 || at == first+2*n-1 {
					opened(t, d)
				}
			}
		}
	}
}

// P16.1: a job that the power cut off behind its head is done from its changes on, step by step, whatever else goes.
func TestOpenSteps(t *testing.T) {
	for _, n := range []int{1, 2, 3, 31, 32, 33, 64, 65, 95, 96} {
		changes := many(n)
		steps := lastSteps(changes)
		for calls := range len(steps) + 2 {
			for _, keep := range keeps(n + 3) {
				a, b := laidJob(t, 300, changes), laidJob(t, 300, changes)
				a.Arm(calls)
				if calls < len(steps) {
					unopened(t, "cut off", a, api.ErrDown)
				} else if r := opened(t, a); r.Broken() || r.Len() != 200 {
					t.Error("broken, or of another length")
				}
				walk(t, b, steps[:min(calls, len(steps))])
				same(t, "Open", a, b, keep)
			}
		}
	}
}

// P16.1: what is there when it is opened is the whole job, in the data only.
func TestOpenDone(t *testing.T) {
	changes := []redo.Change{change(3, "three"), change(0, ""), change(4, strings.Repeat("\xff", size))}
	r := opened(t, laidJob(t, 105, changes))
	told(t, r, 3, "three")
	told(t, r, 0, "")
	told(t, r, 4, strings.Repeat("\xff", size))
	told(t, r, 1, "b\x00\x65")
	told(t, r, 2, "b\x00\x66")
	is(t, "Do", r.Do(change(1, "next")), api.OK)
	told(t, r, 1, "next")
	told(t, r, 3, "three")
}

// P16.1: a head that isn't that of the job, at any byte, does nothing; so do a place or an image that changed.
func TestOpenSpoilt(t *testing.T) {
	changes := []redo.Change{change(3, "three"), change(0, "nought")}
	written := writtenOf(changes)
	whole := headOf(2, written) + written
	for at := range len(whole) {
		for _, by := range []byte{1, 0x80, 0xff} {
			b := []byte(whole)
			b[at] ^= by
			d := laid(t, 105, string(b[:size]), string(b[size:]))
			d.Arm(0)
			if r, e := redo.Open(d); e != api.OK || r == nil {
				t.Errorf("byte %d: Open: %d", at, e)
			}
			same(t, "spoilt", d, laid(t, 105, string(b[:size]), string(b[size:])), nil)
		}
	}
	d := laidJob(t, 105, changes)
	d.Write(6, []byte("an image beyond"))
	told(t, opened(t, d), 3, "three")
}

// P16.1: sums that are near to the right one are none.
func TestOpenSums(t *testing.T) {
	written := writtenOf([]redo.Change{change(1, "x")})
	plain := func(parts ...string) string {
		h := fnv.New32a()
		for _, p := range parts {
			h.Write([]byte(p))
		}
		return string(h.Sum(nil))
	}
	other := fnv.New32()
	other.Write([]byte("\x00\x01" + written))
	right := plain("\x00\x01", written)
	turned := []byte(right)
	slices.Reverse(turned)
	sums := []string{
		plain(written), plain("\x52\x44", written), plain("\x52\x44\x00\x01", written), plain("\x01\x00", written), plain("\x01", written), plain("\x00\x00\x00\x01", written),
		plain("\x00\x01", written[:3*size]), plain("\x00\x01", written[3*size:]), plain("\x00\x01", written, filled("b\x00\x05")), plain(written, "\x00\x01"),
		plain("\x00\x01", written[3*size:], written[:3*size]), string(other.Sum(nil)), string(turned), "\x81\x1c\x9d\xc5", "\x00\x00\x00\x00",
	}
	for i, sum := range sums {
		told(t, opened(t, laid(t, 103, filled("\x52\x44\x00\x01"+sum), written)), 1, "b\x00\x65")
		if sum == right {
			t.Errorf("sum %d is right", i)
		}
	}
	told(t, opened(t, laid(t, 103, filled("\x52\x44\x00\x01"+right), written)), 1, "x")
}

// P16.1: a job one of whose places isn't there isn't done at all.
func TestOpenPlaces(t *testing.T) {
	for _, n := range []int{fewest, 105, 356, 400, most} {
		for _, at := range []int{n - first, n - first + 1, n, 3996, 4095, 4096, 32767, 32768, 65435, 65436, 65535} {
			for spot := range 3 {
				places := []int{0, n - first - 1, 0}
				places[spot] = at
				if at < n-first {
					continue
				}
				written := placesOf(places...) + filled("x") + filled("y") + filled("z")
				d := laid(t, n, headOf(3, written), written)
				d.Arm(0)
				opened(t, d)
				same(t, "a place that isn't there", d, laid(t, n, headOf(3, written), written), nil)
			}
		}
		written := placesOf(n-first-1) + filled("x")
		told(t, opened(t, laid(t, n, headOf(1, written), written)), n-first-1, "x")
	}
}

// P16.1: what stands behind the places of the changes counts in the sum, and is no place; a place that is there twice has what comes last.
func TestOpenOddPlaces(t *testing.T) {
	written := placesOf(1, 65535, 2) + filled("x")
	r := opened(t, laid(t, 103, headOf(1, written), written))
	told(t, r, 1, "x")
	told(t, r, 2, "b\x00\x66")
	written = placesOf(1, 1, 0) + filled("x") + filled("y")
	r = opened(t, laid(t, 103, headOf(2, written), written))
	told(t, r, 1, "y")
	told(t, r, 0, "b\x00\x64")
}

// P16.1: a head that is pending is read as it is.
func TestOpenPending(t *testing.T) {
	written := writtenOf([]redo.Change{change(1, "x")})
	d := based(t, 103)
	walk(t, d, run(1, written))
	d.Write(0, []byte(headOf(1, written)))
	told(t, opened(t, d), 1, "x")
	if len(d.Pending()) > 0 {
		t.Error(d.Pending())
	}
	d = laidJob(t, 103, []redo.Change{change(1, "x")})
	d.Write(0, nil)
	d.Arm(0)
	told(t, opened(t, d), 1, "b\x00\x65")
}

// P16.2: only data sectors are read.
func TestRead(t *testing.T) {
	d := based(t, 105)
	r := opened(t, d)
	for at := range 5 {
		told(t, r, at, string([]byte{'b', 0, byte(first + at)}))
	}
	for _, at := range []int{math.MinInt, math.MinInt + 1, -101, -100, -99, -1, 5, 6, 100, 105, 65536, math.MaxInt - 100, math.MaxInt - 99, math.MaxInt} {
		refused(t, r, at, api.ErrRange)
	}
	d.Write(102, []byte("pending"))
	told(t, r, 2, "pending")
	d.Crash()
	told(t, r, 2, "b\x00\x66")
}

// P16.2: the disk's errors of reading are told, and break nothing.
func TestReadErrors(t *testing.T) {
	d := based(t, 105)
	r := opened(t, d)
	d.Bad(102, true)
	refused(t, r, 2, api.ErrSector)
	refused(t, r, 5, api.ErrRange)
	told(t, r, 1, "b\x00\x65")
	d.Arm(0)
	d.Flush()
	refused(t, r, 1, api.ErrDown)
	refused(t, r, 2, api.ErrDown)
	refused(t, r, 5, api.ErrRange)
	refused(t, r, -1, api.ErrRange)
	if r.Broken() {
		t.Error("broken")
	}
	d.Crash()
	refused(t, r, 2, api.ErrSector)
	told(t, r, 1, "b\x00\x65")
	is(t, "Do to a bad sector", r.Do(change(2, "x")), api.OK)
	refused(t, r, 2, api.ErrSector)
	d.Bad(102, false)
	told(t, r, 2, "x")
}

// P16.3: changes that are no job are refused, and nothing is written.
func TestNoJob(t *testing.T) {
	d := based(t, 300)
	r := opened(t, d)
	d.Arm(0)
	long := strings.Repeat("x", size+1)
	for i, changes := range [][]redo.Change{
		nil, {}, {change(-1, "x")}, {change(200, "x")}, {change(-100, "")}, {change(300, "")}, {change(math.MinInt, "x")}, {change(math.MaxInt, "x")}, {change(65536, "x")}, {change(math.MaxInt-99, "x")},
		{change(0, long)}, {change(0, long+long)}, {change(0, "a"), change(0, "a")}, {change(0, "a"), change(1, ""), change(0, "b")}, {change(0, "a"), change(1, long)}, {change(0, "a"), change(200, "")}, {change(-1, ""), change(0, "")},
		many(97), many(98), append(many(96), change(0, "x")), append(many(95), many(95)[94]), append(many(95), change(199, long)), append(many(95), change(200, "")),
	} {
		if e := r.Do(changes...); e != api.ErrForm || r.Broken() {
			t.Errorf("%d: %d, broken %v", i, e, r.Broken())
		}
	}
	if d.Down() || len(d.Pending()) > 0 {
		t.Error("something was written")
	}
	d.Crash()
	same(t, "no job", d, based(t, 300), nil)
	is(t, "Do", r.Do(many(96)...), api.OK)
}

// P16.3: the least jobs and the greatest are done, to the first data sector and the last.
func TestDo(t *testing.T) {
	for _, n := range []int{fewest, 105, 300, most} {
		r := opened(t, based(t, n))
		is(t, "Do", r.Do(change(n-first-1, strings.Repeat("z", size))), api.OK)
		told(t, r, n-first-1, strings.Repeat("z", size))
		is(t, "Do of nothing", r.Do(change(0, "")), api.OK)
		told(t, r, 0, "")
		is(t, "Do", r.Do(change(0, "short")), api.OK)
		told(t, r, 0, "short")
		is(t, "Do", r.Do(redo.Change{}), api.OK)
		told(t, r, 0, "")
	}
	r := opened(t, based(t, 300))
	is(t, "Do", r.Do(many(96)...), api.OK)
	done := map[int]string{}
	for _, c := range many(96) {
		done[c.At] = string(c.Data)
	}
	for at := range 200 {
		text, ok := done[at]
		if !ok {
			text = string([]byte{'b', byte((first + at) >> 8), byte(first + at)})
		}
		told(t, r, at, text)
	}
}

// P16.3: a job is done step by step as the chapter says, and whatever step the power takes, those ahead of it were done.
func TestDoSteps(t *testing.T) {
	for _, n := range []int{1, 2, 3, 31, 32, 33, 64, 65, 95, 96} {
		changes := many(n)
		steps := allSteps(changes)
		for calls := range len(steps) + 2 {
			for _, keep := range keeps(n + 5) {
				a, b := based(t, 300), based(t, 300)
				r := opened(t, a)
				a.Arm(calls)
				e := r.Do(changes...)
				if (e == api.OK) != (calls >= len(steps)) || e != api.OK && e != api.ErrDown || r.Broken() != (e != api.OK) {
					t.Errorf("%d changes, %d calls: %d, broken %v", n, calls, e, r.Broken())
				}
				walk(t, b, steps[:min(calls, len(steps))])
				same(t, "Do", a, b, keep)
			}
		}
	}
}

// P16.3: the chapter's example.
func TestExample(t *testing.T) {
	d := disk.New(fewest)
	r := opened(t, d)
	for i, step := range []struct {
		calls   int
		pending []int
	}{{0, nil}, {1, []int{1}}, {4, []int{1, 2, 3, 4}}, {5, nil}, {6, []int{0}}, {7, nil}, {8, []int{100}}, {9, nil}, {10, []int{0}}, {11, nil}} {
		d.Arm(step.calls)
		e := r.Do(change(0, "x"))
		if got := d.Pending(); !slices.Equal(got, step.pending) || (e == api.OK) != (step.calls == 11) {
			t.Errorf("%d: pending %v, %d", i, got, e)
		}
		d.Crash()
		r = opened(t, d)
	}
}

// P16.3: jobs that come one after the other leave nothing of each other, and places of a longer one aren't places of the next.
func TestDoAgain(t *testing.T) {
	next := []redo.Change{change(0xc7, "next"), change(1, "")}
	steps := allSteps(next)
	for calls := range len(steps) + 1 {
		a, b := based(t, 300), based(t, 300)
		r := opened(t, a)
		is(t, "Do", r.Do(many(96)...), api.OK)
		walk(t, b, allSteps(many(96)))
		a.Arm(calls)
		r.Do(next...)
		walk(t, b, steps[:calls])
		same(t, "the next job", a, b, []bool{true, false, true})
	}
}

// P16.2, P16.3: a broken journal is answered ErrState, but for sectors that aren't there, and stays broken.
func TestBroken(t *testing.T) {
	d := based(t, 105)
	r := opened(t, d)
	d.Arm(0)
	is(t, "Do", r.Do(change(0, "x")), api.ErrDown)
	for _, up := range []bool{false, true, true} {
		if !r.Broken() || r.Len() != 5 {
			t.Error("isn't broken")
		}
		for at := range 5 {
			refused(t, r, at, api.ErrState)
		}
		refused(t, r, -1, api.ErrRange)
		refused(t, r, 5, api.ErrRange)
		d.Bad(101, true)
		refused(t, r, 1, api.ErrState)
		d.Bad(101, false)
		is(t, "Do", r.Do(change(0, "x")), api.ErrState)
		is(t, "Do of no job", r.Do(), api.ErrState)
		is(t, "Do of no job", r.Do(change(5, "x")), api.ErrState)
		is(t, "Do of no job", r.Do(change(0, strings.Repeat("x", size+1))), api.ErrState)
		if len(d.Pending()) > 0 {
			t.Error("something was written")
		}
		if up {
			d.Crash()
		}
	}
	d.Crash()
	same(t, "broken", d, based(t, 105), nil)
	r = opened(t, d)
	is(t, "Do", r.Do(change(0, "x")), api.OK)
	told(t, r, 0, "x")
}

// P16.3: a disk that went down by other calls breaks the journal at its next job, not ahead of it.
func TestDownElse(t *testing.T) {
	d := based(t, 105)
	r := opened(t, d)
	d.Arm(0)
	d.Flush()
	is(t, "Do of no job", r.Do(), api.ErrForm)
	if r.Broken() {
		t.Error("broken")
	}
	d.Crash()
	is(t, "Do", r.Do(change(1, "x")), api.OK)
	d.Arm(0)
	d.Flush()
	is(t, "Do", r.Do(change(1, "y")), api.ErrDown)
	d.Crash()
	refused(t, r, 1, api.ErrState)
	told(t, opened(t, d), 1, "x")
}

// Journals on two disks are apart from each other.
func TestApart(t *testing.T) {
	a, b := based(t, 105), based(t, 105)
	one, two := opened(t, a), opened(t, b)
	is(t, "Do", one.Do(change(1, "one")), api.OK)
	told(t, two, 1, "b\x00\x65")
	a.Arm(0)
	is(t, "Do", one.Do(change(1, "x")), api.ErrDown)
	is(t, "Do", two.Do(change(1, "two")), api.OK)
	told(t, two, 1, "two")
	if two.Broken() {
		t.Error("broken")
	}
}

// all are all words of n signs for what stands behind a crash.
func all(n int) [][]bool {
	var l [][]bool
	for said := range 1 << n {
		keep := make([]bool, n)
		for k := range keep {
			keep[k] = said>>k&1 == 1
		}
		l = append(l, keep)
	}
	return l
}

// whole tells whether all changes of a job stand, and holds that none does else.
func whole(t *testing.T, r *redo.Redo, changes []redo.Change) bool {
	t.Helper()
	stand := 0
	changed := map[int]bool{}
	for _, c := range changes {
		changed[c.At] = true
		if b, e := r.Read(c.At); e == api.OK && string(b) == filled(string(c.Data)) {
			stand++
		} else {
			told(t, r, c.At, string([]byte{'b', 0, byte(first + c.At)}))
		}
	}
	for at := range r.Len() {
		if !changed[at] {
			told(t, r, at, string([]byte{'b', 0, byte(first + at)}))
		}
	}
	if stand != 0 && stand != len(changes) {
		t.Errorf("%d of %d changes stand", stand, len(changes))
	}
	return stand > 0
}

// P16.4: at each step, with each keep, and with each step and keep of two more times when it is opened: all changes, or none, and from the first flush of the head on all.
func TestCrashEach(t *testing.T) {
	changes := []redo.Change{change(2, "new"), change(0, "")}
	steps := len(allSteps(changes))
	headStands := 3 + len(changes) + 1 + 2
	for calls := range steps + 1 {
		for _, keep := range all(5) {
			for again := range 6 {
				for _, kept := range all(2) {
					d := based(t, 103)
					r := opened(t, d)
					d.Arm(calls)
					e := r.Do(changes...)
					d.Crash(keep...)
					for more := again; more >= 0; more -= 2 {
						d.Arm(more)
						redo.Open(d)
						d.Crash(kept...)
					}
					stand := whole(t, opened(t, d), changes)
					if calls >= headStands && !stand || calls < headStands-1 && stand || e == api.OK && !stand {
						t.Fatalf("power at %d, keep %v: they stand: %v", calls, keep, stand)
					}
				}
			}
		}
	}
}

// drawnJob is a job of any size, of data sectors up to n, with any bytes.
func drawnJob(r *rand.Rand, n int) []redo.Change {
	count := 1 + r.Intn(min(n, 96))
	if r.Intn(3) > 0 {
		count = 1 + r.Intn(min(n, 6))
	}
	var l []redo.Change
	for _, at := range r.Perm(n)[:count] {
		b := make([]byte, r.Intn(size+1))
		r.Read(b)
		l = append(l, redo.Change{At: at, Data: b})
	}
	return l
}

// drawnKeep is any word of what stands behind a crash.
func drawnKeep(r *rand.Rand) []bool {
	keep := make([]bool, r.Intn(102))
	part := r.Intn(5)
	for k := range keep {
		keep[k] = r.Intn(4) < part
	}
	return keep
}

// reopened is a journal on a disk whose power went, and may go while it is opened.
func reopened(t *testing.T, r *rand.Rand, d *disk.Disk) *redo.Redo {
	t.Helper()
	d.Crash(drawnKeep(r)...)
	for r.Intn(2) == 0 {
		d.Arm(r.Intn(12))
		redo.Open(d)
		d.Crash(drawnKeep(r)...)
	}
	return opened(t, d)
}

// P16.4: drawn jobs on one disk, behind each other, each of them wholly there or not at all, whatever the power does.
func TestCrashDrawn(t *testing.T) {
	r := rand.New(rand.NewSource(16))
	for range 60 {
		d := disk.New(fewest + r.Intn(120))
		journal := opened(t, d)
		now := make([]string, journal.Len())
		for at := range now {
			now[at] = filled("")
		}
		for range 25 {
			changes := drawnJob(r, len(now))
			next := slices.Clone(now)
			for _, c := range changes {
				next[c.At] = filled(string(c.Data))
			}
			d.Arm(r.Intn(2*len(changes)+14) - 1)
			e := journal.Do(changes...)
			if e != api.OK || r.Intn(3) == 0 {
				journal = reopened(t, r, d)
			}
			d.Arm(-1)
			var got []string
			for at := range now {
				b, _ := journal.Read(at)
				got = append(got, string(b))
			}
			if !slices.Equal(got, next) && (e == api.OK || !slices.Equal(got, now)) {
				t.Fatalf("%d changes, %d: neither all nor none", len(changes), e)
			}
			now = got
		}
	}
}

// What is handed in is neither changed nor kept, and what is told is new memory.
func TestMemory(t *testing.T) {
	d := based(t, 105)
	r := opened(t, d)
	room := []byte("abcdefgh")
	other := []byte("ijkl")
	changes := []redo.Change{{At: 1, Data: room[:3]}, {At: 0, Data: room[2:5]}, {At: 4, Data: other[:0]}, {At: 9, Data: nil}}
	is(t, "Do", r.Do(changes[:3]...), api.OK)
	if string(room) != "abcdefgh" || string(other) != "ijkl" || changes[0].At != 1 || changes[1].At != 0 || changes[3].At != 9 || string(changes[1].Data) != "cde" {
		t.Error("what was handed in was changed")
	}
	clear(room)
	clear(changes)
	told(t, r, 1, "abc")
	told(t, r, 0, "cde")
	told(t, r, 4, "")
	one, _ := r.Read(1)
	two, _ := r.Read(1)
	clear(one[:cap(one)])
	if string(two) != filled("abc") {
		t.Error("two answers share")
	}
	told(t, r, 1, "abc")
}

// P16.3, P16.4: what a job was given isn't asked again when it is done again.
func TestMemoryAgain(t *testing.T) {
	d := based(t, 105)
	r := opened(t, d)
	data := bytes.Repeat([]byte("x"), size)
	d.Arm(4 + 1 + 2)
	is(t, "Do", r.Do(redo.Change{At: 1, Data: data}), api.ErrDown)
	clear(data)
	d.Crash()
	told(t, opened(t, d), 1, strings.Repeat("x", size))
}
