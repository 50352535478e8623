package entry_test

import (
	"bytes"
	"encoding/binary"
	"encoding/hex"
	"hash/fnv"
	"math"
	"math/rand"
	"regexp"
	"slices"
	"strconv"
	"strings"
	"testing"

	"pantry/api"
	"pantry/entry"
	"pantry/field"
)

const (
	maxTime   = 253402300799
	maxRecord = 4000
)

// small is an entry that every version can have.
func small() entry.Entry {
	return entry.Entry{Key: "k", Asked: 5, Came: 300, Status: 200, Fields: fields("A", "b"), Body: []byte("xy"), Generation: 1}
}

// full is an entry that only version 3 can have, no part of it like another.
func full() entry.Entry {
	return entry.Entry{Key: "key", Second: "=1:s", Names: []string{"accept", "b"}, Asked: 1 << 33, Came: 1<<34 + 7, Status: 404, Fields: fields("A", "b", "a", "", "C-d", "e f"), Body: []byte("\x00\xffbody"), Generation: 70000}
}

// with is an entry that was changed.
func with(e entry.Entry, change func(e *entry.Entry)) entry.Entry {
	change(&e)
	return e
}

// fields are made of names and values, one after the other.
func fields(parts ...string) field.List {
	var l field.List
	for i := 0; i < len(parts); i += 2 {
		l = append(l, field.Field{Name: parts[i], Value: parts[i+1]})
	}
	return l
}

func long(n int) string { return strings.Repeat("a", n) }

// sameEntry holds two entries against each other part by part.
func sameEntry(a, b entry.Entry) bool {
	numbers := func(e entry.Entry) [4]int { return [4]int{e.Asked, e.Came, e.Status, e.Generation} }
	texts := func(e entry.Entry) [3]string { return [3]string{e.Key, e.Second, string(e.Body)} }
	return numbers(a) == numbers(b) && texts(a) == texts(b) && slices.Equal(a.Names, b.Names) && slices.Equal(a.Fields, b.Fields)
}

func nothing(e entry.Entry) bool { return sameEntry(e, entry.Entry{}) }

// A plain reading of the chapter: records are made by the library's numbers and
// sums, and read by lengths that are cut off in front.

func bytes2(n int) string { return string(binary.BigEndian.AppendUint16(nil, uint16(n))) }

func bytes6(n int) string { return string(binary.BigEndian.AppendUint64(nil, uint64(n))[2:]) }

func text(s string) string { return bytes2(len(s)) + s }

func plainRest(version int, e entry.Entry) string {
	names, all := bytes2(len(e.Names)), bytes2(len(e.Fields))
	for _, name := range e.Names {
		names += text(name)
	}
	for _, f := range e.Fields {
		all += text(f.Name) + text(f.Value)
	}
	first := []string{"", "", bytes6(e.Generation), text(e.Second) + names + bytes6(e.Generation)}[version]
	return first + text(e.Key) + bytes6(e.Asked) + bytes6(e.Came) + bytes6(e.Status) + all + text(string(e.Body))
}

// sealed is a record of any rest, with a right size and sum.
func sealed(version int, rest string) []byte {
	h := fnv.New32a()
	h.Write([]byte(rest))
	return append(h.Sum([]byte{0x45, byte(version), byte(len(rest) >> 8), byte(len(rest))}), rest...)
}

func plainRecord(version int, e entry.Entry) []byte { return sealed(version, plainRest(version, e)) }

var (
	smallToken = regexp.MustCompile("^[a-z0-9!#$%&'*+.^_|`~-]{1,64}$")
	token      = regexp.MustCompile("^[A-Za-z0-9!#$%&'*+.^_|`~-]{1,64}$")
	visible    = regexp.MustCompile(`^[^\x00-\x08\x0a-\x1f\x7f]*$`)
)

func plainRight(e entry.Entry) bool {
	right := e.Key != "" && len(e.Key) < 1201 && len(e.Second) < 601 && len(e.Names) < 9 && len(e.Fields) < 65 && len(e.Body) < 2049
	right = right && e.Asked >= 0 && e.Asked <= maxTime && e.Came >= 0 && e.Came <= maxTime && e.Generation >= 1 && e.Generation <= maxTime
	right = right && e.Status >= 200 && e.Status <= 599
	for i, s := range e.Names {
		right = right && smallToken.MatchString(s) && !slices.ContainsFunc(e.Names[:i], func(before string) bool { return before >= s })
	}
	for _, f := range e.Fields {
		right = right && token.MatchString(f.Name) && visible.MatchString(f.Value) && len(f.Value) < 1025 && strings.Trim(f.Value, " \t") == f.Value
	}
	return right
}

func plainFits(e entry.Entry, version int) bool {
	bare := e.Second == "" && len(e.Names) == 0
	return plainRight(e) && (version == 3 || version == 2 && bare || version == 1 && bare && e.Generation == 1)
}

// plainEncode is the record, or the error.
func plainEncode(version int, e entry.Entry) ([]byte, api.Errno) {
	if version < 1 || version > 3 {
		return nil, api.ErrVersion
	}
	if !plainRight(e) {
		return nil, api.ErrForm
	}
	if !plainFits(e, version) {
		return nil, api.ErrLossy
	}
	if 8+len(plainRest(version, e)) > maxRecord {
		return nil, api.ErrBig
	}
	return plainRecord(version, e), api.OK
}

// cut takes what stands in front, and panics where that isn't there.
type cut struct{ left []byte }

func (c *cut) number(size int) int {
	n := append(make([]byte, 8-size), c.left[:size]...)
	c.left = c.left[size:]
	return int(binary.BigEndian.Uint64(n))
}

func (c *cut) text() string {
	n := c.number(2)
	s := string(c.left[:n:len(c.left)])
	c.left = c.left[n:]
	return s
}

func plainDecode(b []byte) (e entry.Entry, version int, f api.Errno) {
	if len(b) < 8 || len(b) > maxRecord || b[0] != 0x45 {
		return e, 0, api.ErrForm
	}
	if b[1] < 1 || b[1] > 3 {
		return e, 0, api.ErrVersion
	}
	if int(binary.BigEndian.Uint16(b[2:])) != len(b)-8 {
		return e, 0, api.ErrForm
	}
	version = int(b[1])
	if !bytes.Equal(b, sealed(version, string(b[8:]))) {
		return e, 0, api.ErrSum
	}
	defer func() {
		if recover() != nil {
			e, version, f = entry.Entry{}, 0, api.ErrForm
		}
	}()
	c := &cut{b[8:len(b):len(b)]}
	e.Generation = 1
	if version == 3 {
		e.Second = c.text()
		for range c.number(2) {
			e.Names = append(e.Names, c.text())
		}
	}
	if version != 1 {
		e.Generation = c.number(6)
	}
	e.Key = c.text()
	e.Asked = c.number(6)
	e.Came = c.number(6)
	e.Status = c.number(6)
	for range c.number(2) {
		name := c.text()
		e.Fields = append(e.Fields, field.Field{Name: name, Value: c.text()})
	}
	e.Body = []byte(c.text())
	if len(c.left) > 0 || !plainRight(e) {
		panic("none")
	}
	return e, version, api.OK
}

// What is wanted of each call.

func wantRight(t *testing.T, what string, e entry.Entry, want bool) {
	t.Helper()
	if e.Right() != want {
		t.Errorf("%s: Right is not %t", what, want)
	}
	if e.Fits(3) != want {
		t.Errorf("%s: Fits(3) is not %t", what, want)
	}
	b, f := entry.Encode(3, e)
	if refused := f == api.ErrForm; refused == want || refused && len(b) > 0 {
		t.Errorf("%s: Encode: %d bytes, %d", what, len(b), f)
	}
}

func wantEncode(t *testing.T, version int, e entry.Entry, want []byte, f api.Errno) {
	t.Helper()
	if got, g := entry.Encode(version, e); g != f || !bytes.Equal(got, want) {
		t.Errorf("Encode(%d, %.300q): %.300x, %d, not %.300x, %d", version, e.Key, got, g, want, f)
	}
}

func wantDecode(t *testing.T, b []byte, want entry.Entry, version int, f api.Errno) {
	t.Helper()
	if got, v, g := entry.Decode(b); g != f || v != version || !sameEntry(got, want) {
		t.Errorf("Decode(%.300x): %.300q, %d, %d, not %.300q, %d, %d", b, got.Key, v, g, want.Key, version, f)
	}
}

func wantNoEntry(t *testing.T, b []byte, f api.Errno) {
	t.Helper()
	wantDecode(t, b, entry.Entry{}, 0, f)
}

func wantTurn(t *testing.T, b []byte, version int, want []byte, f api.Errno) {
	t.Helper()
	if got, g := entry.Turn(b, version); g != f || !bytes.Equal(got, want) {
		t.Errorf("Turn(%.300x, %d): %.300x, %d, not %.300x, %d", b, version, got, g, want, f)
	}
}

func TestRightTextsAndLists(t *testing.T) {
	names := func(names ...string) entry.Entry { return with(small(), func(e *entry.Entry) { e.Names = names }) }
	for _, x := range []struct {
		what string
		e    entry.Entry
		want bool
	}{
		{"small", small(), true}, {"full", full(), true}, {"nothing", entry.Entry{}, false},
		{"least", entry.Entry{Key: "k", Status: 200, Generation: 1}, true},
		{"no key", with(full(), func(e *entry.Entry) { e.Key = "" }), false},
		{"any key", with(full(), func(e *entry.Entry) { e.Key = "\x00\xff\n A" }), true},
		{"key 1200", with(small(), func(e *entry.Entry) { e.Key = long(1200) }), true},
		{"key 1201", with(small(), func(e *entry.Entry) { e.Key = long(1201) }), false},
		{"key of 65537", with(small(), func(e *entry.Entry) { e.Key = long(65537) }), false},
		{"any second", with(small(), func(e *entry.Entry) { e.Second = "\x00\xff\n A" }), true},
		{"second 600", with(small(), func(e *entry.Entry) { e.Second = long(600) }), true},
		{"second 601", with(small(), func(e *entry.Entry) { e.Second = long(601) }), false},
		{"second of 65536", with(small(), func(e *entry.Entry) { e.Second = long(65536) }), false},
		{"body 2048", with(small(), func(e *entry.Entry) { e.Body = make([]byte, 2048) }), true},
		{"body 2049", with(small(), func(e *entry.Entry) { e.Body = make([]byte, 2049) }), false},
		{"body of 65536", with(small(), func(e *entry.Entry) { e.Body = make([]byte, 65536) }), false},
		{"no fields", with(small(), func(e *entry.Entry) { e.Fields = nil }), true},
		{"64 fields", with(small(), func(e *entry.Entry) { e.Fields = slices.Repeat(fields("A", "b"), 64) }), true},
		{"65 fields", with(small(), func(e *entry.Entry) { e.Fields = slices.Repeat(fields("A", "b"), 65) }), false},
		{"a field without a name", with(small(), func(e *entry.Entry) { e.Fields = fields("A", "b", "", "b") }), false},
		{"a field's name 64", with(small(), func(e *entry.Entry) { e.Fields = fields(long(64), "b") }), true},
		{"a field's name 65", with(small(), func(e *entry.Entry) { e.Fields = fields(long(65), "b") }), false},
		{"a field's name of two", with(small(), func(e *entry.Entry) { e.Fields = fields("A b", "b") }), false},
		{"a value 1024", with(small(), func(e *entry.Entry) { e.Fields = fields("A", long(1024)) }), true},
		{"a value 1025", with(small(), func(e *entry.Entry) { e.Fields = fields("A", "b", "A", long(1025)) }), false},
		{"a value of two lines", with(small(), func(e *entry.Entry) { e.Fields = fields("A", "b\nc") }), false},
		{"a value with a blank at its end", with(small(), func(e *entry.Entry) { e.Fields = fields("A", "b ") }), false},
		{"one name", names("a"), true}, {"two names", names("a", "b"), true}, {"8 names", names(strings.Split("abcdefgh", "")...), true}, {"9 names", names(strings.Split("abcdefghi", "")...), false}, {"many names", names(slices.Repeat([]string{"a"}, 70000)...), false},
		{"names fall", names("b", "a"), false}, {"a name twice", names("a", "a"), false}, {"the last two fall", names("a", "c", "b"), false}, {"the last is there", names("a", "b", "b"), false}, {"they rise, but not from the first", names("c", "a", "b"), false},
		{"they rise by bytes", names("!", "-", "0", "9", "_", "a", "ab", "b"), true}, {"shorter ones first", names("a", "a-", "a-b", "aa"), true}, {"a longer one first", names("ab", "a"), false}, {"numbers rise by bytes", names("10", "9"), true}, {"numbers don't rise as such", names("9", "10"), false},
		{"an empty name", names(""), false}, {"an empty name first", names("", "a"), false}, {"a great letter", names("A"), false}, {"a great letter within", names("a", "bC"), false}, {"a blank", names("a b"), false}, {"a comma", names("a,b"), false}, {"not of ASCII", names("\u00e9"), false}, {"great beyond ASCII", names("\u00c9"), false}, {"any byte", names("a\xff"), false}, {"quotes", names(`"a"`), false}, {"a star", names("*"), true},
		{"a name 64", names(long(64)), true}, {"a name 65", names(long(65)), false}, {"the second name 65", names("a", long(65)), false}, {"a name without end", names(long(1 << 20)), false},
	} {
		wantRight(t, x.what, x.e, x.want)
		if plainRight(x.e) != x.want {
			t.Errorf("%s: the plain reading is another one", x.what)
		}
	}
}

// TestRightNames holds each byte as a name, and with each other one.
func TestRightNames(t *testing.T) {
	e := small()
	for i := range 256 {
		for _, name := range []string{string([]byte{byte(i)}), string([]byte{'a', byte(i)}), string([]byte{byte(i), 'a'})} {
			e.Names = []string{name}
			wantRight(t, name, e, plainRight(e))
		}
		for j := range 256 {
			e.Names = []string{string([]byte{byte(i)}), string([]byte{byte(j)})}
			if e.Right() != plainRight(e) {
				t.Errorf("%q: %t", e.Names, e.Right())
			}
		}
	}
}

func TestRightNumbers(t *testing.T) {
	far := []int{math.MinInt, -maxTime, -1, 0, 1, 2, 199, 200, 201, 404, 598, 599, 600, 65535, 65736, 1 << 31, 1<<32 + 200, maxTime - 1, maxTime, maxTime + 1, 1 << 48, 1<<48 + 200, 1<<48 + 1, math.MaxInt}
	for _, base := range []entry.Entry{small(), full()} {
		for _, n := range far {
			wantRight(t, "Asked", with(base, func(e *entry.Entry) { e.Asked = n }), n >= 0 && n <= maxTime)
			wantRight(t, "Came", with(base, func(e *entry.Entry) { e.Came = n }), n >= 0 && n <= maxTime)
			wantRight(t, "Status", with(base, func(e *entry.Entry) { e.Status = n }), n >= 200 && n <= 599)
			wantRight(t, "Generation", with(base, func(e *entry.Entry) { e.Generation = n }), n >= 1 && n <= maxTime)
		}
		for status := range 1200 {
			wantRight(t, "Status", with(base, func(e *entry.Entry) { e.Status = status }), status >= 200 && status <= 599)
		}
	}
	// No time hangs on the other one.
	wantRight(t, "asked behind", with(small(), func(e *entry.Entry) { e.Asked, e.Came = 9, 3 }), true)
}

func TestFits(t *testing.T) {
	for _, x := range []struct {
		e    entry.Entry
		fits [4]bool
	}{
		{small(), [4]bool{1: true, 2: true, 3: true}},
		{with(small(), func(e *entry.Entry) { e.Names = []string{} }), [4]bool{1: true, 2: true, 3: true}},
		{with(small(), func(e *entry.Entry) { e.Generation = 2 }), [4]bool{2: true, 3: true}},
		{with(small(), func(e *entry.Entry) { e.Generation = maxTime }), [4]bool{2: true, 3: true}},
		{with(small(), func(e *entry.Entry) { e.Second = "-" }), [4]bool{3: true}},
		{with(small(), func(e *entry.Entry) { e.Names = []string{"a"} }), [4]bool{3: true}},
		{with(small(), func(e *entry.Entry) { e.Names, e.Second = []string{"a"}, "-" }), [4]bool{3: true}},
		{with(small(), func(e *entry.Entry) { e.Names, e.Generation = []string{"a"}, 2 }), [4]bool{3: true}},
		{full(), [4]bool{3: true}},
		{entry.Entry{}, [4]bool{}},
		{with(small(), func(e *entry.Entry) { e.Generation = 0 }), [4]bool{}},
		{with(small(), func(e *entry.Entry) { e.Key = "" }), [4]bool{}},
		{with(small(), func(e *entry.Entry) { e.Status, e.Generation = 600, 2 }), [4]bool{}},
		{with(full(), func(e *entry.Entry) { e.Asked = -1 }), [4]bool{}},
		// A record that is too big is another thing.
		{with(small(), func(e *entry.Entry) { e.Fields = slices.Repeat(fields("A", long(1024)), 64) }), [4]bool{1: true, 2: true, 3: true}},
	} {
		for version := range x.fits {
			if x.e.Fits(version) != x.fits[version] {
				t.Errorf("%.300q, %d: not %t", x.e.Key, version, x.fits[version])
			}
		}
		for _, version := range []int{math.MinInt, -3, -1, 4, 5, 255, 257, 258, 259, 1<<32 + 1, 1<<32 + 3, math.MaxInt} {
			if x.e.Fits(version) {
				t.Errorf("%.300q, %d", x.e.Key, version)
			}
		}
	}
}

func TestSame(t *testing.T) {
	wantSame := func(a, b entry.Entry, want bool) {
		t.Helper()
		if entry.Same(a, b) != want || entry.Same(b, a) != want {
			t.Errorf("Same(%q, %q) is not %t", a.Fields, b.Fields, want)
		}
	}
	changes := []func(e *entry.Entry){
		func(e *entry.Entry) { e.Key = "Key" }, func(e *entry.Entry) { e.Key = "ke" }, func(e *entry.Entry) { e.Key = "" }, func(e *entry.Entry) { e.Key, e.Second = e.Second, e.Key },
		func(e *entry.Entry) { e.Second = "=1:S" }, func(e *entry.Entry) { e.Second = "" },
		func(e *entry.Entry) { e.Names = nil }, func(e *entry.Entry) { e.Names = []string{"accept"} }, func(e *entry.Entry) { e.Names = []string{"b", "accept"} }, func(e *entry.Entry) { e.Names = []string{"accept", "B"} }, func(e *entry.Entry) { e.Names = []string{"accept", "b", "c"} },
		func(e *entry.Entry) { e.Asked++ }, func(e *entry.Entry) { e.Asked += 1 << 32 }, func(e *entry.Entry) { e.Came-- }, func(e *entry.Entry) { e.Asked, e.Came = e.Came, e.Asked },
		func(e *entry.Entry) { e.Status++ }, func(e *entry.Entry) { e.Status = 0 }, func(e *entry.Entry) { e.Generation++ }, func(e *entry.Entry) { e.Generation = 0 }, func(e *entry.Entry) { e.Generation += 1 << 32 },
		func(e *entry.Entry) { e.Fields = nil }, func(e *entry.Entry) { e.Fields = fields("A", "b", "a", "") }, func(e *entry.Entry) { e.Fields = append(slices.Clone(e.Fields), e.Fields[2]) },
		func(e *entry.Entry) { e.Fields = fields("A", "b", "C-d", "e f", "a", "") }, func(e *entry.Entry) { e.Fields = fields("a", "b", "a", "", "C-d", "e f") }, func(e *entry.Entry) { e.Fields = fields("A", "B", "a", "", "C-d", "e f") }, func(e *entry.Entry) { e.Fields = fields("A", "b", "a", " ", "C-d", "e f") }, func(e *entry.Entry) { e.Fields = fields("A", "b, ", "C-d", "e f") },
		func(e *entry.Entry) { e.Body = nil }, func(e *entry.Entry) { e.Body = []byte("\x00\xffbodY") }, func(e *entry.Entry) { e.Body = []byte("\x00\xffbody\x00") }, func(e *entry.Entry) { e.Body = []byte("body") },
	}
	wantSame(full(), full(), true)
	wantSame(entry.Entry{}, entry.Entry{}, true)
	wantSame(entry.Entry{Key: long(9999), Status: -1}, entry.Entry{Key: long(9999), Status: -1}, true)
	wantSame(entry.Entry{Fields: fields("", "\n")}, entry.Entry{Fields: fields("", "\n")}, true)
	wantSame(entry.Entry{Fields: fields("", "\n")}, entry.Entry{Fields: fields("", "\r")}, false)
	wantSame(entry.Entry{Names: []string{}, Fields: field.List{}, Body: []byte{}}, entry.Entry{}, true)
	wantSame(entry.Entry{Names: []string{""}}, entry.Entry{}, false)
	wantSame(entry.Entry{Fields: fields("", "")}, entry.Entry{}, false)
	for i, change := range changes {
		wantSame(full(), with(full(), change), false)
		wantSame(with(full(), change), with(full(), change), true)
		for _, other := range changes[:i] {
			a, b := with(full(), change), with(full(), other)
			wantSame(a, b, sameEntry(a, b))
		}
	}
}

// TestRecords holds records byte by byte.
func TestRecords(t *testing.T) {
	const parts = "00016b" + "000000000005" + "00000000012c" + "0000000000c8" + "0001" + "000141" + "000162" + "0002" + "7879"
	const fullParts = "00036b6579" + "000200000000" + "000400000007" + "000000000194" + "0003" + "000141000162" + "0001610000" + "0003432d640003652066" + "000600ff626f6479"
	late := with(small(), func(e *entry.Entry) { e.Generation = maxTime })
	for _, x := range []struct {
		e                  entry.Entry
		version            int
		size, sum, content string
	}{
		{small(), 1, "0021", "d3e29cc6", parts}, {small(), 2, "0027", "a6c6a407", "000000000001" + parts}, {small(), 3, "002b", "510f6ff7", "0000" + "0000" + "000000000001" + parts},
		{late, 2, "0027", "e98dc65d", "003afff4417f" + parts}, {late, 3, "002b", "7358b24d", "0000" + "0000" + "003afff4417f" + parts},
		{full(), 3, "004f", "8304b92d", "0004" + "3d313a73" + "0002" + "0006616363657074" + "000162" + "000000011170" + fullParts},
		{entry.Entry{Key: "k", Status: 599, Generation: 1}, 1, "0019", "937d190c", "00016b" + "000000000000" + "000000000000" + "000000000257" + "0000" + "0000"},
	} {
		b, err := hex.DecodeString("450" + strconv.Itoa(x.version) + x.size + x.sum + x.content)
		if err != nil {
			t.Fatal(err)
		}
		if plain := sealed(x.version, string(b[8:])); !bytes.Equal(plain, b) {
			t.Errorf("the plain reading is %x, not %x", plain[:8], b[:8])
		}
		wantEncode(t, x.version, x.e, b, api.OK)
		wantDecode(t, b, x.e, x.version, api.OK)
	}
}

// TestSum tells the sum of any rest by which error there is: of the right sum
// only the rest is wrong.
func TestSum(t *testing.T) {
	begin := func(rest, sum string) []byte {
		b, _ := hex.DecodeString(sum)
		return append(append([]byte{0x45, 1, byte(len(rest) >> 8), byte(len(rest))}, b...), rest...)
	}
	for rest, sum := range map[string]string{"": "811c9dc5", "a": "e40c292c", "b": "e70c2de5", "foobar": "bf9cf968", "\x00": "050c5d1f", "\xff": "7a0b824e"} {
		wantNoEntry(t, begin(rest, sum), api.ErrForm)
		wantNoEntry(t, begin(rest+"a", sum), api.ErrSum)
	}
	wantNoEntry(t, begin("", "00000000"), api.ErrSum)
	wantNoEntry(t, begin("a", "811c9dc5"), api.ErrSum)
	wantNoEntry(t, begin("a", "2c290ce4"), api.ErrSum)
	wantNoEntry(t, begin("ab", "e40c292c"), api.ErrSum)
	r := rand.New(rand.NewSource(14))
	for range 2000 {
		rest := make([]byte, r.Intn(200))
		r.Read(rest)
		b := sealed(1+r.Intn(3), string(rest))
		wantNoEntry(t, b, api.ErrForm)
		b[4+r.Intn(4)] ^= 1 << r.Intn(8)
		wantNoEntry(t, b, api.ErrSum)
	}
	// Each byte of the rest counts, at any place.
	for _, b := range [][]byte{plainRecord(1, small()), plainRecord(3, full()), plainRecord(1, sized(1, 4000))} {
		for i := 4; i < len(b); i++ {
			wrong := bytes.Clone(b)
			wrong[i] ^= 1 << (i % 8)
			wantNoEntry(t, wrong, api.ErrSum)
		}
	}
}

func TestEncodeErrorsInOrder(t *testing.T) {
	big := with(small(), func(e *entry.Entry) { e.Fields = slices.Repeat(fields("A", long(1000)), 4) })
	late := with(big, func(e *entry.Entry) { e.Generation = 2 })
	varied := with(big, func(e *entry.Entry) { e.Names = []string{"a"} })
	wrong := with(varied, func(e *entry.Entry) { e.Key = "" })
	for _, x := range []struct {
		e entry.Entry
		f [4]api.Errno
	}{
		{big, [4]api.Errno{api.ErrVersion, api.ErrBig, api.ErrBig, api.ErrBig}},
		{late, [4]api.Errno{api.ErrVersion, api.ErrLossy, api.ErrBig, api.ErrBig}},
		{varied, [4]api.Errno{api.ErrVersion, api.ErrLossy, api.ErrLossy, api.ErrBig}},
		{wrong, [4]api.Errno{api.ErrVersion, api.ErrForm, api.ErrForm, api.ErrForm}},
		{entry.Entry{}, [4]api.Errno{api.ErrVersion, api.ErrForm, api.ErrForm, api.ErrForm}},
		{with(small(), func(e *entry.Entry) { e.Second = "-" }), [4]api.Errno{api.ErrVersion, api.ErrLossy, api.ErrLossy, api.OK}},
		{with(small(), func(e *entry.Entry) { e.Generation = 2 }), [4]api.Errno{api.ErrVersion, api.ErrLossy, api.OK, api.OK}},
	} {
		for version, f := range x.f {
			if got, g := entry.Encode(version, x.e); g != f || (g != api.OK && len(got) > 0) {
				t.Errorf("%d: %d bytes, %d, not %d", version, len(got), g, f)
			}
		}
		for _, version := range []int{math.MinInt, -1, 4, 256, 257, 259, 1<<32 + 1, math.MaxInt} {
			wantEncode(t, version, x.e, nil, api.ErrVersion)
		}
	}
	for _, version := range []int{math.MinInt, -1, 0, 4, 257, math.MaxInt} {
		wantEncode(t, version, small(), nil, api.ErrVersion)
	}
}

// sized is an entry whose record in a version has that many bytes.
func sized(version, size int) entry.Entry {
	e := with(small(), func(e *entry.Entry) { e.Body = make([]byte, 1500) })
	e.Fields = fields("A", long(1000), "B", long(1000), "C", "")
	e.Fields[2].Value = long(size - len(plainRecord(version, e)))
	return e
}

func TestSizes(t *testing.T) {
	for version := 1; version <= 3; version++ {
		for size := 3980; size <= 4020; size++ {
			e := sized(version, size)
			if size > maxRecord {
				wantEncode(t, version, e, nil, api.ErrBig)
				wantNoEntry(t, plainRecord(version, e), api.ErrForm)
				continue
			}
			b := plainRecord(version, e)
			wantEncode(t, version, e, b, api.OK)
			wantDecode(t, b, e, version, api.OK)
			for to := 1; to <= 3; to++ {
				want, f := plainEncode(to, e)
				if grown := size + []int{0, 0, 6, 10}[to] - []int{0, 0, 6, 10}[version]; (f == api.ErrBig) != (grown > maxRecord) {
					t.Errorf("%d to %d: %d", version, to, f)
				}
				wantTurn(t, b, to, want, f)
			}
		}
	}
	// As much as an entry may have of each part is too big, but only as a whole.
	all := full()
	all.Key, all.Second, all.Names = long(1200), long(600), nil
	for c := 'a'; c < 'i'; c++ {
		all.Names = append(all.Names, strings.Repeat(string(c), 64))
	}
	all.Body, all.Fields = nil, nil
	wantEncode(t, 3, all, plainRecord(3, all), api.OK)
	wantDecode(t, plainRecord(3, all), all, 3, api.OK)
	all.Body = make([]byte, 2048)
	wantEncode(t, 3, all, nil, api.ErrBig)
	all.Fields = slices.Repeat(fields(long(64), long(1024)), 64)
	wantEncode(t, 3, all, nil, api.ErrBig)
	many := with(small(), func(e *entry.Entry) { e.Fields, e.Body = slices.Repeat(fields("A", ""), 64), make([]byte, 2048) })
	wantDecode(t, plainRecord(1, many), many, 1, api.OK)
}

func TestDecodeErrorsInOrder(t *testing.T) {
	set := func(b []byte, places ...int) []byte {
		c := bytes.Clone(b)
		for i := 0; i < len(places); i += 2 {
			c[places[i]] = byte(places[i+1])
		}
		return c
	}
	good := plainRecord(1, small())
	none := sealed(1, "a")
	for _, x := range []struct {
		b []byte
		f api.Errno
	}{
		{nil, api.ErrForm}, {[]byte{}, api.ErrForm}, {[]byte{0x45}, api.ErrForm}, {make([]byte, 8), api.ErrForm}, {make([]byte, 1<<17), api.ErrForm}, {set(good, 0, 0), api.ErrForm}, {set(good, 0, 0x46, 1, 9), api.ErrForm}, {set(good, 0, 0x44, 3, 9, 4, 9), api.ErrForm},
		{set(good[:7], 1, 9), api.ErrForm}, {append(set(good, 1, 9), make([]byte, maxRecord)...), api.ErrForm},
		{set(good, 1, 0), api.ErrVersion}, {set(good, 1, 4), api.ErrVersion}, {set(good, 1, 255), api.ErrVersion}, {set(good, 1, 0x81), api.ErrVersion}, {set(good, 1, 4, 3, 9), api.ErrVersion}, {set(good, 1, 4, 4, 0xff), api.ErrVersion}, {set(none, 1, 0), api.ErrVersion}, {set(good[:8], 1, 4), api.ErrVersion},
		{set(good, 3, 32), api.ErrForm}, {set(good, 3, 34), api.ErrForm}, {set(good, 2, 1), api.ErrForm}, {set(good, 3, 32, 4, 0), api.ErrForm}, {set(good, 2, 33, 3, 0), api.ErrForm}, {good[:8], api.ErrForm}, {good[:len(good)-1], api.ErrForm}, {append(bytes.Clone(good), 0), api.ErrForm},
		{set(good, 4, 0), api.ErrSum}, {set(good, 7, 0), api.ErrSum}, {set(good, 8, 1), api.ErrSum}, {set(none, 4, 0), api.ErrSum}, {set(none, 8, 'b'), api.ErrSum}, {set(good, 40, 'z'), api.ErrSum},
		{none, api.ErrForm}, {sealed(2, ""), api.ErrForm}, {sealed(3, ""), api.ErrForm}, {set(good, 1, 2), api.ErrForm}, {set(good, 1, 3), api.ErrForm}, {good, api.OK},
	} {
		want, version := entry.Entry{}, 0
		if x.f == api.OK {
			want, version = small(), 1
		}
		wantDecode(t, x.b, want, version, x.f)
		if _, _, f := plainDecode(x.b); f != x.f {
			t.Errorf("%x: the plain reading is %d", x.b, f)
		}
	}
	for i := range 256 {
		if i != 0x45 {
			wantNoEntry(t, set(good, 0, i), api.ErrForm)
		}
		if i < 1 || i > 3 {
			wantNoEntry(t, set(good, 1, i), api.ErrVersion)
		}
	}
	for size := range 5000 {
		b := append(bytes.Clone(good), make([]byte, 5000)...)[:size]
		if size != len(good) {
			wantNoEntry(t, b, api.ErrForm)
		}
	}
}

// TestRestsThatAreNone are wrong just in what the rest says.
func TestRestsThatAreNone(t *testing.T) {
	low := text("k") + bytes6(0) + bytes6(0) + bytes6(200)
	for _, rest := range []string{
		"", "\x00", low, low + bytes2(0), low + bytes2(0) + bytes2(1), low + bytes2(0) + bytes2(0) + "\x00", low + bytes2(0) + bytes2(1) + "xy", low + bytes2(0) + "\x00", low + bytes2(0) + bytes2(65535), low + bytes2(65535) + bytes2(0),
		low + bytes2(1) + bytes2(0), low + bytes2(1) + text("A") + bytes2(0), low + bytes2(0) + text("A") + text("b") + bytes2(0), low + bytes2(2) + text("A") + text("b") + bytes2(0), low + bytes2(1) + text("") + text("b") + bytes2(0), low + bytes2(1) + text("A") + text("b\n") + bytes2(0),
		low + bytes2(1) + text("A") + text(" b") + bytes2(0), low + bytes2(1) + text(long(65)) + text("") + bytes2(0), low + bytes2(1) + text("A") + text(long(1025)) + bytes2(0), low + bytes2(65) + strings.Repeat(text("A")+text(""), 65) + bytes2(0), low + bytes2(1<<8) + bytes2(0),
		low + bytes2(0) + text(long(2049)), text("") + low[3:] + bytes2(0) + bytes2(0), text(long(1201)) + low[3:] + bytes2(0) + bytes2(0), bytes2(65535) + low[2:] + bytes2(0) + bytes2(0),
		text("k") + bytes6(maxTime+1) + bytes6(0) + bytes6(200) + bytes2(0) + bytes2(0), text("k") + bytes6(0) + bytes6(1<<48-1) + bytes6(200) + bytes2(0) + bytes2(0), text("k") + bytes6(0) + bytes6(0) + bytes6(199) + bytes2(0) + bytes2(0), text("k") + bytes6(0) + bytes6(0) + bytes6(600) + bytes2(0) + bytes2(0), text("k") + bytes6(0) + bytes6(0) + bytes6(1<<32+200) + bytes2(0) + bytes2(0),
	} {
		wantNoEntry(t, sealed(1, rest), api.ErrForm)
		wantNoEntry(t, sealed(2, bytes6(7)+rest), api.ErrForm)
		wantNoEntry(t, sealed(3, bytes2(0)+bytes2(0)+bytes6(7)+rest), api.ErrForm)
	}
	good := low + bytes2(0) + bytes2(0)
	least := entry.Entry{Key: "k", Status: 200, Generation: 1}
	wantDecode(t, sealed(1, good), least, 1, api.OK)
	wantDecode(t, sealed(2, bytes6(1)+good), least, 2, api.OK)
	wantDecode(t, sealed(3, bytes2(0)+bytes2(0)+bytes6(1)+good), least, 3, api.OK)
	for _, generation := range []int{0, maxTime + 1, 1<<48 - 1} {
		wantNoEntry(t, sealed(2, bytes6(generation)+good), api.ErrForm)
		wantNoEntry(t, sealed(3, bytes2(0)+bytes2(0)+bytes6(generation)+good), api.ErrForm)
	}
	for _, ahead := range []string{
		"", bytes2(0), text("") + bytes2(1), text("") + bytes2(65535), text("") + bytes2(1) + text(""), text("") + bytes2(1) + text("A"), text("") + bytes2(2) + text("b") + text("a"), text("") + bytes2(2) + text("a") + text("a"), text("") + bytes2(2) + text("a"), text("") + bytes2(0) + text("a"),
		text("") + bytes2(1) + text(long(65)), text("") + bytes2(1) + text("a b"), text("") + bytes2(9) + "\x00\x01a\x00\x01b\x00\x01c\x00\x01d\x00\x01e\x00\x01f\x00\x01g\x00\x01h\x00\x01i", text(long(601)) + bytes2(0), bytes2(65535) + bytes2(0), text("\x00"),
	} {
		wantNoEntry(t, sealed(3, ahead+bytes6(1)+good), api.ErrForm)
	}
}

// TestEachCutAndByte takes and changes each byte of rests, under a right sum.
func TestEachCutAndByte(t *testing.T) {
	for version, e := range map[int]entry.Entry{1: small(), 2: with(small(), func(e *entry.Entry) { e.Generation = 300 }), 3: full()} {
		rest := plainRest(version, e)
		for i := range rest {
			wantNoEntry(t, sealed(version, rest[:i]), api.ErrForm)
			wantNoEntry(t, sealed(version, rest+rest[:i+1]), api.ErrForm)
			for to := range 256 {
				b := sealed(version, rest[:i]+string([]byte{byte(to)})+rest[i+1:])
				want, v, f := plainDecode(b)
				wantDecode(t, b, want, v, f)
			}
			b := sealed(version, rest[:i]+rest[i+1:])
			want, v, f := plainDecode(b)
			wantDecode(t, b, want, v, f)
		}
	}
}

func TestTurn(t *testing.T) {
	late := with(small(), func(e *entry.Entry) { e.Generation = 2 })
	for _, x := range []struct {
		e       entry.Entry
		version int
		f       [5]api.Errno
	}{
		{small(), 1, [5]api.Errno{0: api.ErrVersion, 4: api.ErrVersion}}, {small(), 2, [5]api.Errno{0: api.ErrVersion, 4: api.ErrVersion}}, {small(), 3, [5]api.Errno{0: api.ErrVersion, 4: api.ErrVersion}},
		{late, 2, [5]api.Errno{0: api.ErrVersion, 1: api.ErrLossy, 4: api.ErrVersion}}, {late, 3, [5]api.Errno{0: api.ErrVersion, 1: api.ErrLossy, 4: api.ErrVersion}},
		{full(), 3, [5]api.Errno{0: api.ErrVersion, 1: api.ErrLossy, 2: api.ErrLossy, 4: api.ErrVersion}},
		{with(small(), func(e *entry.Entry) { e.Names = []string{"a"} }), 3, [5]api.Errno{0: api.ErrVersion, 1: api.ErrLossy, 2: api.ErrLossy, 4: api.ErrVersion}},
	} {
		b := plainRecord(x.version, x.e)
		for to, f := range x.f {
			var want []byte
			if f == api.OK {
				want = plainRecord(to, x.e)
			}
			wantTurn(t, b, to, want, f)
		}
		for _, to := range []int{math.MinInt, -1, 257, 258, 259, math.MaxInt} {
			wantTurn(t, b, to, nil, api.ErrVersion)
		}
		// The error of the record goes ahead of that of the version.
		for _, to := range []int{-1, 0, 1, 2, 3, 4, 257} {
			wantTurn(t, b[:7], to, nil, api.ErrForm)
			wantTurn(t, append([]byte{0x45, 9}, b[2:]...), to, nil, api.ErrVersion)
			wantTurn(t, append(bytes.Clone(b), 0), to, nil, api.ErrForm)
			wantTurn(t, append(bytes.Clone(b[:len(b)-1]), b[len(b)-1]+1), to, nil, api.ErrSum)
			wantTurn(t, sealed(x.version, plainRest(x.version, x.e)+"\x00"), to, nil, api.ErrForm)
			wantTurn(t, nil, to, nil, api.ErrForm)
		}
	}
}

// draw is an entry of which a part is often at an edge, and one in some isn't
// right.
func draw(r *rand.Rand) entry.Entry {
	pick := func(ns ...int) int { return ns[r.Intn(len(ns))] }
	signs := func(n int) string {
		b := make([]byte, n)
		r.Read(b)
		return string(b)
	}
	time := func() int { return pick(r.Intn(maxTime), r.Intn(1000), 0, 1, maxTime, 1<<32, 1<<40-1) }
	e := entry.Entry{Key: signs(pick(1, 2, 5, 1200, 1+r.Intn(600))), Asked: time(), Came: time(), Status: pick(200, 599, 255, 256, 200+r.Intn(400)), Generation: pick(1, 1, 1, 2, 255, maxTime, 1+r.Intn(maxTime))}
	e.Body = []byte(signs(pick(0, 0, 1, r.Intn(40), r.Intn(2049))))
	for range pick(0, 0, 1, 3, r.Intn(65)) {
		e.Fields = append(e.Fields, field.Field{Name: long(pick(1, 2, 10, 64)), Value: strings.Repeat("v\xff", pick(0, 1, 2, 20, r.Intn(400)))})
	}
	if r.Intn(2) == 0 {
		e.Second = signs(pick(0, 1, 9, 600))
		for i := range r.Intn(9) {
			e.Names = append(e.Names, string(rune('a'+i))+long(pick(0, 1, 5, 63)))
		}
	}
	if r.Intn(8) > 0 {
		return e
	}
	wrong := []func(){
		func() { e.Key = signs(pick(0, 1201)) }, func() { e.Second = signs(pick(601, 4000)) }, func() { e.Names = append(e.Names, "a", "A") }, func() { e.Names = []string{"b", "a"} }, func() { e.Asked = pick(-1, maxTime+1) }, func() { e.Came = pick(-1, maxTime+1) },
		func() { e.Status = pick(-200, 0, 199, 600) }, func() { e.Generation = pick(-1, 0, maxTime+1) }, func() { e.Body = make([]byte, 2049) }, func() { e.Fields = append(e.Fields, field.Field{Name: pickName(r), Value: "\x00"}) },
	}
	wrong[r.Intn(len(wrong))]()
	return e
}

func pickName(r *rand.Rand) string { return []string{"", "a", "a b", long(65)}[r.Intn(4)] }

// TestDrawn holds drawn entries against the plain reading, and through forms in
// any order.
func TestDrawn(t *testing.T) {
	r := rand.New(rand.NewSource(41))
	seen := map[api.Errno]int{}
	for range 20000 {
		e := draw(r)
		version := r.Intn(6) - 1
		if e.Right() != plainRight(e) || e.Fits(version) != plainFits(e, version) {
			t.Fatalf("%+v: Right %t, Fits(%d) %t", e, e.Right(), version, e.Fits(version))
		}
		want, f := plainEncode(version, e)
		wantEncode(t, version, e, want, f)
		seen[f]++
		if f != api.OK {
			continue
		}
		wantDecode(t, want, e, version, api.OK)
		b := want
		for range 6 {
			to := 1 + r.Intn(3)
			next, f := plainEncode(to, e)
			wantTurn(t, b, to, next, f)
			if f == api.OK {
				b = next
			}
		}
		back, _, f := entry.Decode(b)
		if f != api.OK || !entry.Same(back, e) {
			t.Errorf("%+v was %+v", back, e)
		}
		if t.Failed() {
			return
		}
	}
	for _, f := range []api.Errno{api.OK, api.ErrVersion, api.ErrForm, api.ErrLossy, api.ErrBig} {
		if seen[f] < 200 {
			t.Errorf("too few of %d: %d", f, seen[f])
		}
	}
}

// TestAnyBytes holds bytes that are none, and records that were spoilt, against
// the plain reading.
func TestAnyBytes(t *testing.T) {
	r := rand.New(rand.NewSource(140))
	good := 0
	for range 60000 {
		var b []byte
		switch r.Intn(3) {
		case 0:
			b = make([]byte, r.Intn(40))
			r.Read(b)
			copy(b, []byte{0x45, byte(r.Intn(5))})
		case 1:
			b = plainRecord(3, full())
		default:
			b = plainRecord(2, small())
		}
		for range r.Intn(4) {
			if len(b) > 0 {
				b[r.Intn(len(b))] = byte(r.Intn(r.Intn(256) + 1))
			}
		}
		if len(b) > 8 && r.Intn(4) > 0 {
			b = sealed(int(b[1]), string(b[8:]))
		}
		want, version, f := plainDecode(b)
		wantDecode(t, b, want, version, f)
		to := r.Intn(5)
		var turned []byte
		if f == api.OK {
			good++
			turned, f = plainEncode(to, want)
		}
		wantTurn(t, b, to, turned, f)
		if t.Failed() {
			return
		}
	}
	if good < 1000 {
		t.Errorf("too few are good: %d", good)
	}
}

// roomy is a list with spare room, where marks stand.
func roomy[T any](l []T, mark T) []T {
	return append(slices.Clone(l), mark, mark, mark)[:len(l)]
}

// spoil writes over all of a list, its spare room too.
func spoil[T any](l []T, with T) {
	for i := range l[:cap(l)] {
		l[:cap(l)][i] = with
	}
}

func roomyEntry() entry.Entry {
	e := full()
	e.Names, e.Fields, e.Body = roomy(e.Names, "mark"), roomy(e.Fields, field.Field{Name: "mark"}), roomy(e.Body, 7)
	return e
}

func spoilEntry(e entry.Entry) {
	spoil(e.Names, "spoilt")
	spoil(e.Fields, field.Field{Name: "spoilt"})
	spoil(e.Body, 9)
}

// sameRoom tells whether an entry and its spare room are as they were.
func sameRoom(e entry.Entry) bool {
	whole, want := e, roomyEntry()
	for _, x := range []*entry.Entry{&whole, &want} {
		n, f, b := len(x.Names), len(x.Fields), len(x.Body)
		x.Names, x.Fields, x.Body = x.Names[:n+3], x.Fields[:f+3], x.Body[:b+3]
	}
	return sameEntry(whole, want)
}

func TestEntriesStay(t *testing.T) {
	e := roomyEntry()
	want := plainRecord(3, full())
	one, _ := entry.Encode(3, e)
	two, _ := entry.Encode(3, e)
	entry.Same(e, e)
	e.Right()
	e.Fits(3)
	entry.Encode(1, e)
	spoil(one, 9)
	if !sameRoom(e) {
		t.Errorf("an argument was changed: %+v", e)
	}
	spoilEntry(e)
	if !bytes.Equal(two, want) {
		t.Errorf("an answer shares memory: %x", two)
	}
	wantEncode(t, 3, full(), want, api.OK)
}

func TestRecordsStay(t *testing.T) {
	want := plainRecord(3, full())
	b := roomy(want, 7)
	room := bytes.Clone(b[:cap(b)])
	one, _, _ := entry.Decode(b)
	two, _, _ := entry.Decode(b)
	first, _ := entry.Turn(b, 3)
	second, _ := entry.Turn(b, 3)
	spoilEntry(one)
	spoil(first, 9)
	if !bytes.Equal(b[:cap(b)], room) {
		t.Errorf("an argument was changed: %x", b[:cap(b)])
	}
	spoil(b, 9)
	if !sameEntry(two, full()) || !bytes.Equal(second, want) {
		t.Errorf("an answer shares memory: %+v, %x", two, second)
	}
	wantDecode(t, want, full(), 3, api.OK)
}

// TestNilAndEmpty holds that lists of both kinds are one.
func TestNilAndEmpty(t *testing.T) {
	bare := entry.Entry{Key: "k", Status: 200, Generation: 1}
	empty := with(bare, func(e *entry.Entry) { e.Names, e.Fields, e.Body = []string{}, field.List{}, []byte{} })
	for version := 1; version <= 3; version++ {
		b := plainRecord(version, bare)
		wantEncode(t, version, bare, b, api.OK)
		wantEncode(t, version, empty, b, api.OK)
		got, _, _ := entry.Decode(b)
		if !entry.Same(got, bare) || !entry.Same(got, empty) || !got.Fits(1) {
			t.Errorf("%+v", got)
		}
	}
}
