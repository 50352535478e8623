package disk_test

import (
	"bytes"
	"math"
	"math/rand"
	"slices"
	"strings"
	"testing"

	"pantry/api"
	"pantry/disk"
)

const (
	size = 64
	most = 4096
)

// filled is what a sector is once a text was written there.
func filled(text string) string { return text + strings.Repeat("\x00", size-len(text)) }

// told holds what a sector is read as against a text and noughts.
func told(t *testing.T, d *disk.Disk, i int, text string) {
	t.Helper()
	if b, e := d.Read(i); e != api.OK || string(b) != filled(text) {
		t.Errorf("sector %d: %q, %d; want %q", i, b, e, text)
	}
}

// refused holds what a sector is read as against an error, beside which there is nothing.
func refused(t *testing.T, d *disk.Disk, i int, want api.Errno) {
	t.Helper()
	if b, e := d.Read(i); e != want || len(b) != 0 {
		t.Errorf("sector %d: %q, %d; want %d", i, b, e, want)
	}
}

// is holds an answer against the one that is wanted.
func is(t *testing.T, what string, got, want api.Errno) {
	t.Helper()
	if got != want {
		t.Errorf("%s: %d, want %d", what, got, want)
	}
}

func pending(t *testing.T, d *disk.Disk, want ...int) {
	t.Helper()
	if got := d.Pending(); !slices.Equal(got, want) {
		t.Errorf("pending: %v, want %v", got, want)
	}
}

func down(t *testing.T, d *disk.Disk, want bool) {
	t.Helper()
	if d.Down() != want {
		t.Errorf("down: %v", !want)
	}
}

// written is a disk of n sectors on which some texts stand, from sector 0 on.
func written(t *testing.T, n int, texts ...string) *disk.Disk {
	t.Helper()
	d := disk.New(n)
	for i, text := range texts {
		is(t, "Write", d.Write(i, []byte(text)), api.OK)
	}
	is(t, "Flush", d.Flush(), api.OK)
	return d
}

// P15.1: there is a disk of 1 to MaxSectors sectors, all noughts, and none of any other number.
func TestNew(t *testing.T) {
	for _, n := range []int{math.MinInt, -1, 0, most + 1, 1 << 40, math.MaxInt} {
		if disk.New(n) != nil {
			t.Errorf("a disk of %d sectors", n)
		}
	}
	for _, n := range []int{1, 2, 3, 101, most - 1, most} {
		d := disk.New(n)
		if d == nil || d.Len() != n {
			t.Fatalf("no disk of %d sectors", n)
		}
		down(t, d, false)
		pending(t, d)
		for i := range n {
			told(t, d, i, "")
		}
		refused(t, d, n, api.ErrRange)
	}
}

// P15.1: disks are apart from each other.
func TestDisksApart(t *testing.T) {
	a, b := disk.New(2), disk.New(2)
	a.Write(0, []byte("a"))
	a.Bad(1, true)
	a.Arm(0)
	told(t, b, 0, "")
	told(t, b, 1, "")
	pending(t, b)
	is(t, "the other's Write", b.Write(1, nil), api.OK)
	is(t, "Write", a.Write(1, nil), api.ErrDown)
	down(t, b, false)
}

// P15.1: what is pending is told by rising number, each sector once, however it came.
func TestPending(t *testing.T) {
	d := disk.New(most)
	for _, i := range []int{7, 4095, 0, 7, 300, 2, 0} {
		is(t, "Write", d.Write(i, []byte("x")), api.OK)
	}
	pending(t, d, 0, 2, 7, 300, 4095)
	pending(t, d, 0, 2, 7, 300, 4095)
	d.Write(most, nil)
	d.Write(-1, nil)
	d.Write(1, make([]byte, size+1))
	pending(t, d, 0, 2, 7, 300, 4095)
	d.Flush()
	pending(t, d)
	for i := range most {
		d.Write(most-1-i, nil)
	}
	if got := d.Pending(); len(got) != most || !slices.IsSorted(got) || got[0] != 0 || got[most-1] != most-1 {
		t.Errorf("%d are pending", len(got))
	}
	d.Crash()
	pending(t, d)
}

// P15.1: what is pending is told while the disk is down too, and what is written as it was is pending all the same.
func TestPendingAlways(t *testing.T) {
	d := written(t, 4, "a", "b")
	d.Write(3, nil)
	d.Write(1, []byte("b"))
	pending(t, d, 1, 3)
	d.Arm(0)
	d.Flush()
	down(t, d, true)
	pending(t, d, 1, 3)
	if d.Len() != 4 {
		t.Error(d.Len())
	}
}

// P15.2: what is written is read at once, with noughts up to Sector, and nothing else is changed.
func TestWrite(t *testing.T) {
	d := disk.New(3)
	for n := range size + 1 {
		text := strings.Repeat("\xff", n)
		is(t, "Write", d.Write(1, []byte(text)), api.OK)
		told(t, d, 1, text)
		told(t, d, 0, "")
		told(t, d, 2, "")
	}
	is(t, "Write of nothing", d.Write(1, nil), api.OK)
	told(t, d, 1, "")
	for i := range 256 {
		is(t, "Write", d.Write(0, []byte{byte(i), 'a', byte(i)}), api.OK)
		told(t, d, 0, string([]byte{byte(i), 'a', byte(i)}))
	}
}

// P15.2: what is pending stands when it was flushed, the last that was written.
func TestFlush(t *testing.T) {
	d := written(t, 3, "one", "two")
	d.Write(0, []byte("three"))
	d.Write(0, []byte("4"))
	d.Write(2, []byte("five"))
	told(t, d, 0, "4")
	is(t, "Flush", d.Flush(), api.OK)
	pending(t, d)
	d.Crash()
	told(t, d, 0, "4")
	told(t, d, 1, "two")
	told(t, d, 2, "five")
	is(t, "Flush of nothing", d.Flush(), api.OK)
	told(t, d, 0, "4")
}

// P15.2: sectors that aren't there, and bytes that are too many, are refused, and change nothing.
func TestRange(t *testing.T) {
	d := written(t, 3, "a", "b", "c")
	d.Write(1, []byte("d"))
	for _, i := range []int{math.MinInt, -64, -1, 3, 4, most, math.MaxInt} {
		refused(t, d, i, api.ErrRange)
		is(t, "Write", d.Write(i, []byte("x")), api.ErrRange)
		is(t, "Write of nothing", d.Write(i, nil), api.ErrRange)
		is(t, "Write of too much", d.Write(i, make([]byte, 65)), api.ErrRange)
		is(t, "Bad", d.Bad(i, true), api.ErrRange)
		is(t, "good", d.Bad(i, false), api.ErrRange)
	}
	for _, n := range []int{65, 66, 128, 5000} {
		is(t, "Write", d.Write(0, bytes.Repeat([]byte("x"), n)), api.ErrRange)
	}
	told(t, d, 0, "a")
	told(t, d, 1, "d")
	told(t, d, 2, "c")
	pending(t, d, 1)
	d.Crash(true)
	told(t, d, 1, "d")
}

// P15.2: while it is down all is answered ErrDown, ahead of any other error, and nothing is done.
func TestDown(t *testing.T) {
	d := written(t, 3, "a", "b", "c")
	d.Write(0, []byte("x"))
	d.Bad(2, true)
	d.Arm(0)
	is(t, "Write", d.Write(1, []byte("y")), api.ErrDown)
	down(t, d, true)
	for _, i := range []int{-1, 0, 1, 2, 3} {
		refused(t, d, i, api.ErrDown)
		is(t, "Write", d.Write(i, []byte("z")), api.ErrDown)
		is(t, "Write of too much", d.Write(i, make([]byte, 65)), api.ErrDown)
	}
	is(t, "Flush", d.Flush(), api.ErrDown)
	pending(t, d, 0)
	d.Crash()
	down(t, d, false)
	told(t, d, 0, "a")
	told(t, d, 1, "b")
	refused(t, d, 2, api.ErrSector)
}

// P15.3: a bad sector isn't read, but written, and read when it is good again.
func TestBad(t *testing.T) {
	d := written(t, 3, "a", "b", "c")
	is(t, "Bad", d.Bad(1, true), api.OK)
	is(t, "Bad", d.Bad(1, true), api.OK)
	refused(t, d, 1, api.ErrSector)
	told(t, d, 0, "a")
	told(t, d, 2, "c")
	is(t, "Write", d.Write(1, []byte("d")), api.OK)
	refused(t, d, 1, api.ErrSector)
	pending(t, d, 1)
	is(t, "Write of too much", d.Write(1, make([]byte, 65)), api.ErrRange)
	is(t, "good", d.Bad(1, false), api.OK)
	told(t, d, 1, "d")
	d.Bad(1, true)
	is(t, "Flush", d.Flush(), api.OK)
	refused(t, d, 1, api.ErrSector)
	d.Crash()
	refused(t, d, 1, api.ErrSector)
	is(t, "good", d.Bad(1, false), api.OK)
	is(t, "good", d.Bad(1, false), api.OK)
	told(t, d, 1, "d")
	is(t, "good that was", d.Bad(0, false), api.OK)
	told(t, d, 0, "a")
}

// P15.3: what the power does with a bad sector is what it does with any, and sectors are bad while it is down.
func TestBadCrash(t *testing.T) {
	d := written(t, 3, "a", "b", "c")
	d.Write(2, []byte("z"))
	d.Write(0, []byte("x"))
	d.Bad(0, true)
	d.Bad(2, true)
	d.Arm(0)
	d.Flush()
	is(t, "Bad", d.Bad(1, true), api.OK)
	is(t, "good", d.Bad(2, false), api.OK)
	is(t, "Bad", d.Bad(3, true), api.ErrRange)
	refused(t, d, 1, api.ErrDown)
	d.Crash(true, false)
	refused(t, d, 0, api.ErrSector)
	refused(t, d, 1, api.ErrSector)
	told(t, d, 2, "c")
	d.Bad(0, false)
	d.Bad(1, false)
	told(t, d, 0, "x")
	told(t, d, 1, "b")
}

// P15.4: as many calls as it is armed with are done, then the power goes at the next one, which does nothing.
func TestArm(t *testing.T) {
	for n := range 12 {
		for _, last := range []string{"write", "flush"} {
			d := written(t, 16, "a")
			d.Arm(n)
			for i := range n {
				told(t, d, 0, "a")
				if i%3 == 2 {
					is(t, "Flush", d.Flush(), api.OK)
				} else {
					is(t, "Write", d.Write(i+1, []byte("x")), api.OK)
				}
				down(t, d, false)
			}
			ahead := d.Pending()
			if last == "write" {
				is(t, "Write", d.Write(15, []byte("y")), api.ErrDown)
			} else {
				is(t, "Flush", d.Flush(), api.ErrDown)
			}
			down(t, d, true)
			pending(t, d, ahead...)
			d.Crash(true, true, true, true)
			told(t, d, 15, "")
			told(t, d, 0, "a")
			if n > 0 {
				told(t, d, 1, "x")
			}
		}
	}
}

// P15.4: calls that are refused, and other calls, aren't counted, and the power doesn't go at them.
func TestArmCounts(t *testing.T) {
	d := disk.New(2)
	others := func() {
		t.Helper()
		refused(t, d, 2, api.ErrRange)
		refused(t, d, 1, api.ErrSector)
		is(t, "Write", d.Write(2, nil), api.ErrRange)
		is(t, "Write", d.Write(-1, nil), api.ErrRange)
		is(t, "Write of too much", d.Write(0, make([]byte, 65)), api.ErrRange)
		is(t, "Bad", d.Bad(1, true), api.OK)
		is(t, "Bad", d.Bad(5, true), api.ErrRange)
		if d.Len() != 2 || d.Down() || len(d.Pending()) > 1 {
			t.Error("Len, Down or Pending")
		}
		d.Read(0)
	}
	d.Bad(1, true)
	d.Arm(2)
	others()
	is(t, "Flush of nothing", d.Flush(), api.OK)
	others()
	is(t, "Write of a bad one", d.Write(1, []byte("x")), api.OK)
	others()
	is(t, "Flush", d.Flush(), api.ErrDown)
	down(t, d, true)
}

// P15.4: it is armed as it was last, and not at all with a number below 0.
func TestArmAgain(t *testing.T) {
	for _, n := range []int{-1, -2, -1000, math.MinInt} {
		d := disk.New(1)
		d.Arm(1)
		d.Arm(n)
		for range 50 {
			is(t, "Write", d.Write(0, nil), api.OK)
			is(t, "Flush", d.Flush(), api.OK)
		}
		down(t, d, false)
	}
	d := disk.New(1)
	d.Arm(0)
	d.Arm(2)
	d.Write(0, nil)
	d.Arm(1)
	is(t, "Write", d.Write(0, nil), api.OK)
	is(t, "Write", d.Write(0, nil), api.ErrDown)
	d.Crash()
	d.Arm(math.MaxInt)
	for range 50 {
		is(t, "Write", d.Write(0, nil), api.OK)
	}
}

// P15.4, P15.5: what is down stays so, however it is armed, till the power is back.
func TestArmDown(t *testing.T) {
	for _, n := range []int{-1, 0, 1, 5} {
		d := written(t, 1, "a")
		d.Arm(0)
		d.Flush()
		d.Arm(n)
		down(t, d, true)
		refused(t, d, 0, api.ErrDown)
		is(t, "Write", d.Write(0, []byte("x")), api.ErrDown)
		is(t, "Flush", d.Flush(), api.ErrDown)
		d.Crash()
		down(t, d, false)
		for range 10 {
			is(t, "Write", d.Write(0, []byte("x")), api.OK)
		}
		told(t, d, 0, "x")
	}
}

// P15.5: the chapter's example.
func TestExample(t *testing.T) {
	d := written(t, 4, "0", "1", "2", "3")
	d.Write(3, []byte("x"))
	d.Write(1, []byte("y"))
	d.Crash(true, false)
	told(t, d, 3, "3")
	told(t, d, 1, "y")
	d = written(t, 4, "0", "1", "2", "3")
	d.Write(3, []byte("x"))
	d.Write(1, []byte("y"))
	d.Crash(false, true)
	told(t, d, 3, "x")
	told(t, d, 1, "1")
}

// P15.5: each sector that is pending stands as its own word of keep says, by rising number, whatever came first.
func TestCrash(t *testing.T) {
	places := []int{1, 4, 6}
	for order := range 6 {
		turned := [][]int{{1, 4, 6}, {1, 6, 4}, {4, 1, 6}, {4, 6, 1}, {6, 1, 4}, {6, 4, 1}}[order]
		for words := range 5 {
			for said := range 1 << words {
				d := written(t, 8, "0", "1", "2", "3", "4", "5", "6", "7")
				for _, i := range turned {
					d.Write(i, []byte("no"))
					d.Write(i, []byte("new"))
				}
				var keep []bool
				for k := range words {
					keep = append(keep, said>>k&1 == 1)
				}
				d.Crash(keep...)
				pending(t, d)
				for i := range 8 {
					want := string(rune('0' + i))
					if at := slices.Index(places, i); at >= 0 && at < words && keep[at] {
						want = "new"
					}
					told(t, d, i, want)
				}
				d.Crash(true, true, true, true)
				is(t, "Flush", d.Flush(), api.OK)
				told(t, d, 6, map[bool]string{true: "new", false: "6"}[words > 2 && keep[2]])
			}
		}
	}
}

// P15.5: the power may go at any time: it isn't armed then, and nothing is pending.
func TestCrashUp(t *testing.T) {
	d := written(t, 2, "a", "b")
	d.Crash(true, true)
	d.Crash()
	told(t, d, 0, "a")
	d.Arm(1)
	d.Write(1, []byte("c"))
	d.Crash(true)
	down(t, d, false)
	told(t, d, 1, "c")
	for range 10 {
		is(t, "Write", d.Write(0, []byte("d")), api.OK)
	}
	pending(t, d, 0)
	d.Crash()
	told(t, d, 0, "a")
}

// What is handed in is neither changed nor kept, and what is told is new memory.
func TestMemory(t *testing.T) {
	d := disk.New(2)
	room := []byte("abcdefgh")
	is(t, "Write", d.Write(0, room[:3]), api.OK)
	if string(room) != "abcdefgh" {
		t.Errorf("changed: %q", room)
	}
	copy(room, "zzzzzzzz")
	told(t, d, 0, "abc")
	for _, flushed := range []bool{false, true} {
		if flushed {
			d.Flush()
		}
		one, _ := d.Read(0)
		two, _ := d.Read(0)
		clear(one[:cap(one)])
		if string(two) != filled("abc") {
			t.Error("two answers share")
		}
		told(t, d, 0, "abc")
	}
	told(t, d, 1, "")
	d.Write(0, nil)
	d.Write(1, nil)
	one := d.Pending()
	two := d.Pending()
	clear(one[:cap(one)])
	if !slices.Equal(two, []int{0, 1}) {
		t.Error("two answers share")
	}
	pending(t, d, 0, 1)
	keep := []bool{true, false, true, true}
	d.Crash(keep[:1]...)
	if !slices.Equal(keep, []bool{true, false, true, true}) {
		t.Error("keep was changed")
	}
}

// plain is a disk by a history of texts, gone through anew for each question.
type plain struct {
	n       int
	history []put
	bad     map[int]bool
	armed   bool
	calls   int
	down    bool
}

// put is one text that was written to a sector; it stands, or it is pending.
type put struct {
	at     int
	text   string
	stands bool
}

func (p *plain) read(i int) (string, api.Errno) {
	if p.down {
		return "", api.ErrDown
	}
	if i < 0 || i >= p.n {
		return "", api.ErrRange
	}
	if p.bad[i] {
		return "", api.ErrSector
	}
	text := filled("")
	for _, w := range p.history {
		if w.at == i {
			text = filled(w.text)
		}
	}
	return text, api.OK
}

// counted is the answer to a call that would be OK else.
func (p *plain) counted() api.Errno {
	if p.armed && p.calls == 0 {
		p.down = true
		return api.ErrDown
	}
	p.calls--
	return api.OK
}

func (p *plain) write(i int, text string) api.Errno {
	if p.down {
		return api.ErrDown
	}
	if i < 0 || i >= p.n || len(text) > size {
		return api.ErrRange
	}
	e := p.counted()
	if e == api.OK {
		p.history = append(p.history, put{i, text, false})
	}
	return e
}

func (p *plain) flush() api.Errno {
	if p.down {
		return api.ErrDown
	}
	e := p.counted()
	for i := range p.history {
		p.history[i].stands = p.history[i].stands || e == api.OK
	}
	return e
}

func (p *plain) pending() []int {
	var l []int
	for i := range p.n {
		if slices.ContainsFunc(p.history, func(w put) bool { return w.at == i && !w.stands }) {
			l = append(l, i)
		}
	}
	return l
}

func (p *plain) crash(keep []bool) {
	var gone []int
	for at, i := range p.pending() {
		if at >= len(keep) || !keep[at] {
			gone = append(gone, i)
		}
	}
	p.history = slices.DeleteFunc(p.history, func(w put) bool { return !w.stands && slices.Contains(gone, w.at) })
	for i := range p.history {
		p.history[i].stands = true
	}
	p.down, p.armed = false, false
}

// pair is a disk, and what it is held against.
type pair struct {
	d *disk.Disk
	p *plain
}

// step does one drawn thing to both, and tells whether they answered alike.
func (x pair) step(r *rand.Rand) bool {
	i := r.Intn(x.p.n+2) - 1
	switch r.Intn(12) {
	case 0:
		return x.d.Flush() == x.p.flush()
	case 1:
		n := r.Intn(8) - 2
		x.d.Arm(n)
		x.p.armed, x.p.calls = n >= 0, n
	case 2:
		keep := make([]bool, r.Intn(5))
		for k := range keep {
			keep[k] = r.Intn(2) == 0
		}
		x.d.Crash(keep...)
		x.p.crash(keep)
	case 3:
		on := r.Intn(2) == 0
		if there := 0 <= i && i < x.p.n; there != (x.d.Bad(i, on) == api.OK) {
			return false
		}
		x.p.bad[i] = on
	default:
		text := strings.Repeat(string(rune('a'+r.Intn(26))), r.Intn(size+3))
		return x.d.Write(i, []byte(text)) == x.p.write(i, text)
	}
	return true
}

// alike holds all that can be asked of both against each other.
func (x pair) alike() bool {
	for i := -1; i <= x.p.n; i++ {
		b, e := x.d.Read(i)
		text, want := x.p.read(i)
		if e != want || string(b) != text {
			return false
		}
	}
	return x.d.Len() == x.p.n && x.d.Down() == x.p.down && slices.Equal(x.d.Pending(), x.p.pending())
}

// P15.1 to P15.5: drawn calls are answered as by a plain reading of the chapter.
func TestDrawn(t *testing.T) {
	r := rand.New(rand.NewSource(15))
	for n := range 1000 {
		x := pair{disk.New(1 + n%6), &plain{n: 1 + n%6, bad: map[int]bool{}}}
		for at := range 60 {
			if !x.step(r) || !x.alike() {
				t.Fatalf("disk %d, call %d", n, at)
			}
		}
	}
}
