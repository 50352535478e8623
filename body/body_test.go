package body_test

import (
	"bytes"
	"math"
	"math/rand"
	"regexp"
	"slices"
	"strconv"
	"strings"
	"testing"

	"pantry/api"
	"pantry/body"
	"pantry/field"
	"pantry/head"
)

// What the chapter numbers kinds by.
const (
	none     = 0
	counted  = 1
	chunked  = 2
	untilEnd = 3
)

// fields are made of names and values, one after the other.
func fields(parts ...string) field.List {
	var l field.List
	for i := 0; i < len(parts); i += 2 {
		l = append(l, field.Field{Name: parts[i], Value: parts[i+1]})
	}
	return l
}

func lengths(values ...string) field.List {
	var l field.List
	for _, value := range values {
		l = append(l, field.Field{Name: "Content-Length", Value: value})
	}
	return l
}

func codings(values ...string) field.List {
	var l field.List
	for _, value := range values {
		l = append(l, field.Field{Name: "Transfer-Encoding", Value: value})
	}
	return l
}

func request(method string, minor int, l field.List) head.Request {
	return head.Request{Method: method, Target: "/", Head: head.Head{Minor: minor, List: l}}
}

func response(status int, minor int, l field.List) head.Response {
	return head.Response{Status: status, Head: head.Head{Minor: minor, List: l}}
}

// P6.1

// wantFrame holds what fields frame: of a request, and of responses that may
// have a body. Where they tell nothing the kind hangs on which it is.
func wantFrame(t *testing.T, minor int, l field.List, want body.Frame, e api.Errno) {
	t.Helper()
	for _, method := range []string{"GET", "HEAD", "POST", ""} {
		if f, gotE := body.OfRequest(request(method, minor, l)); f != want || gotE != e {
			t.Fatalf("OfRequest of %q, %d, %.200q: %v, %d, not %v, %d", method, minor, l, f, gotE, want, e)
		}
	}
	if e == api.OK && want.Kind == none {
		want.Kind = untilEnd
	}
	for _, method := range []string{"GET", "POST", "head", "Head", "HEAD ", "HEA", ""} {
		for _, status := range []int{200, 203, 205, 303, 305, 404, 599, 1000} {
			if f, gotE := body.OfResponse(method, response(status, minor, l)); f != want || gotE != e {
				t.Fatalf("OfResponse of %q, %d, %d, %.200q: %v, %d, not %v, %d", method, status, minor, l, f, gotE, want, e)
			}
		}
	}
}

func TestFramesWithoutTheirFields(t *testing.T) {
	for _, l := range []field.List{
		nil, {}, fields("Host", "a"),
		fields("Content-Lengt", "1", "Content-Length2", "1", "Content_Length", "1", "", "1", "Content-Length ", "1", "X-Content-Length", "1"),
		fields("Transfer-Encodin", "chunked", "Transfer-Encodings", "x", "Transfer-Coding", "chunked", "TE", "chunked", "Content-Encoding", "gzip"),
		fields("a", "Content-Length: 1"),
	} {
		for _, minor := range []int{0, 1} {
			wantFrame(t, minor, l, body.Frame{}, api.OK)
		}
	}
}

func TestFramesOfLengths(t *testing.T) {
	for _, c := range []struct {
		l    field.List
		want int
	}{
		{lengths("0"), 0},
		{lengths("12"), 12},
		{lengths("012"), 12},
		{lengths(strings.Repeat("0", 1000) + "12"), 12},
		{lengths("12", "12"), 12},
		{lengths("12,12 , 012,,\t0012"), 12},
		{lengths(",12,"), 12},
		{lengths("", "12", ""), 12},
		{lengths("12", "00012, 12"), 12},
		{lengths("0, 00, 000"), 0},
		{fields("content-length", "7", "Host", "a", "CONTENT-LENGTH", "07"), 7},
		{fields("Host", "a", "cOnTeNt-LeNgTh", "7", "Content-Type", "x"), 7},
		{lengths("2047"), 2047},
		{lengths("2048"), 2048},
		{lengths("2048, 02048"), 2048},
	} {
		for _, minor := range []int{0, 1} {
			wantFrame(t, minor, c.l, body.Frame{Kind: counted, Length: c.want}, api.OK)
		}
	}
}

func TestFramesOfEachLength(t *testing.T) {
	for n := range 5000 {
		text := strconv.Itoa(n)
		want, e := body.Frame{Kind: counted, Length: n}, api.OK
		if n > api.MaxBody {
			want, e = body.Frame{}, api.ErrBig
		}
		wantFrame(t, 1, lengths(text), want, e)
		wantFrame(t, 0, lengths(text, "0"+text), want, e)
		wantFrame(t, 1, lengths(text, strconv.Itoa(n+1)), body.Frame{}, api.ErrSmuggle)
	}
}

func TestFramesOfWrongLengths(t *testing.T) {
	for _, c := range []struct {
		l    field.List
		want api.Errno
	}{
		{lengths(""), api.ErrSmuggle},
		{lengths("", "", ""), api.ErrSmuggle},
		{lengths(",, ,\t,"), api.ErrSmuggle},
		{lengths("+1"), api.ErrSmuggle},
		{lengths("-1"), api.ErrSmuggle},
		{lengths("-0"), api.ErrSmuggle},
		{lengths("a"), api.ErrSmuggle},
		{lengths("0x1"), api.ErrSmuggle},
		{lengths("1a"), api.ErrSmuggle},
		{lengths("a1"), api.ErrSmuggle},
		{lengths("1 1"), api.ErrSmuggle},
		{lengths("1;1"), api.ErrSmuggle},
		{lengths("1.0"), api.ErrSmuggle},
		{lengths("1_0"), api.ErrSmuggle},
		{lengths(`"1"`), api.ErrSmuggle},
		{lengths("١"), api.ErrSmuggle},
		{lengths("\xb1"), api.ErrSmuggle},
		{lengths("1\x00"), api.ErrSmuggle},
		{lengths("1", "a"), api.ErrSmuggle},
		{lengths("a", "1"), api.ErrSmuggle},
		{lengths("1, 1, x, 1"), api.ErrSmuggle},
		{lengths("1, 2"), api.ErrSmuggle},
		{lengths("2, 1"), api.ErrSmuggle},
		{lengths("1", "1", "2"), api.ErrSmuggle},
		{lengths("1", "2", "1"), api.ErrSmuggle},
		{lengths("2", "1", "1"), api.ErrSmuggle},
		{lengths("0", "a"), api.ErrSmuggle},
		{lengths("a", "0"), api.ErrSmuggle},
		{lengths("a", "a"), api.ErrSmuggle},
		{lengths("1", `"`, "1"), api.ErrSmuggle},
		{fields("Content-Length", "1", "content-length", "2"), api.ErrSmuggle},

		{lengths("2049"), api.ErrBig},
		{lengths("2049", "02049"), api.ErrBig},
		{lengths("4294967296"), api.ErrBig},
		{lengths("4294967297"), api.ErrBig},
		{lengths("18446744073709551616"), api.ErrBig},
		{lengths("18446744073709551617"), api.ErrBig},
		{lengths(strings.Repeat("9", 1000)), api.ErrBig},
		// Of Numbers all that are above Far are one.
		{lengths("99999999998, 99999999999"), api.ErrBig},

		// ErrSmuggle ahead of ErrBig.
		{lengths("2049", "2050"), api.ErrSmuggle},
		{lengths("2049", "1"), api.ErrSmuggle},
		{lengths("1", "2049"), api.ErrSmuggle},
		{lengths("2049", "x"), api.ErrSmuggle},
		{lengths("x", "2049"), api.ErrSmuggle},
	} {
		for _, minor := range []int{0, 1} {
			wantFrame(t, minor, c.l, body.Frame{}, c.want)
		}
	}
}

func TestFramesOfCodings(t *testing.T) {
	for _, l := range []field.List{
		codings("chunked"), codings("Chunked"), codings("CHUNKED"), codings("cHuNkEd"),
		codings(" chunked\t"), codings(",chunked, ,"), codings("", "chunked"), codings("chunked", "", " , "),
		fields("transfer-encoding", "chunked"), fields("Host", "a", "TRANSFER-ENCODING", "Chunked", "b", "c"),
	} {
		wantFrame(t, 1, l, body.Frame{Kind: chunked}, api.OK)
		wantFrame(t, 0, l, body.Frame{}, api.ErrSmuggle)
		// Only a Minor of 0 can't have it.
		for _, minor := range []int{-1, 2, 10, math.MinInt, math.MaxInt} {
			wantFrame(t, minor, l, body.Frame{Kind: chunked}, api.OK)
		}
	}
}

func TestFramesOfWrongCodings(t *testing.T) {
	for _, l := range []field.List{
		codings(""), codings("", ""), codings(" , ,"),
		codings("gzip"), codings("identity"), codings("chunke"), codings("chunkedd"), codings("xchunked"), codings("chunk ed"), codings("c"), codings("\x0bchunked"),
		codings(`"chunked"`), codings("chunked;q=1"), codings("chunked x"), codings("chun\xc4\xb1ed"), codings("chun\u212aed"),
		codings("chunked, chunked"), codings("chunked", "chunked"), codings("gzip, chunked"), codings("chunked, gzip"), codings("gzip", "chunked"), codings("chunked", "gzip"), codings(`chunked"`, "chunked"),
		fields("Transfer-Encoding", "chunked", "transfer-encoding", "x"),

		append(codings("chunked"), lengths("1")...),
		append(codings("Chunked"), lengths("0")...),
		append(codings("chunked"), lengths("")...),
		append(codings("chunked"), lengths("x")...),
		append(codings("chunked"), lengths("9999")...),
		append(lengths("1"), codings("chunked")...),
		append(lengths("9999"), codings("chunked")...),
		append(lengths("1"), codings("gzip")...),
		append(lengths("1"), codings("")...),
		append(lengths("9999"), codings("")...),
		fields("content-length", "1", "transfer-encoding", "chunked"),
	} {
		for _, minor := range []int{0, 1, 2} {
			wantFrame(t, minor, l, body.Frame{}, api.ErrSmuggle)
		}
	}
}

// bare holds that a response has no body, whatever its fields are.
func bare(t *testing.T, method string, status int) {
	t.Helper()
	for _, l := range []field.List{
		nil, lengths("12"), lengths("0"), lengths("2049"), lengths("x"), lengths("1", "2"), lengths(""),
		codings("chunked"), codings("gzip"), codings(""), append(codings("chunked"), lengths("1")...),
	} {
		for _, minor := range []int{0, 1} {
			if f, e := body.OfResponse(method, response(status, minor, l)); f != (body.Frame{}) || e != api.OK {
				t.Fatalf("OfResponse of %q, %d, %d, %q: %v, %d", method, status, minor, l, f, e)
			}
		}
	}
}

func TestFramesOfBareResponses(t *testing.T) {
	for status := -300; status < 1000; status++ {
		bare(t, "HEAD", status)
		if status < 200 || status == 204 || status == 304 {
			bare(t, "GET", status)
			bare(t, "head", status)
			bare(t, "", status)
			continue
		}
		if f, e := body.OfResponse("GET", response(status, 1, nil)); e != api.OK || f != (body.Frame{Kind: untilEnd}) {
			t.Errorf("%d: %v, %d", status, f, e)
		}
		if f, e := body.OfResponse("GET", response(status, 1, lengths("7"))); e != api.OK || f != (body.Frame{Kind: counted, Length: 7}) {
			t.Errorf("%d: %v, %d", status, f, e)
		}
		if f, e := body.OfResponse("GET", response(status, 0, codings("chunked"))); e != api.ErrSmuggle || f != (body.Frame{}) {
			t.Errorf("%d: %v, %d", status, f, e)
		}
	}
	for _, status := range []int{math.MinInt, math.MinInt32, 1<<32 - 1} {
		bare(t, "HEAD", status)
	}
	bare(t, "GET", math.MinInt)
}

// plainFrame is what fields frame, by plain splitting: the values have no
// quotes.
func plainFrame(minor int, l field.List) (body.Frame, api.Errno) {
	elements, stands := map[string][]string{}, map[string]bool{}
	for _, f := range l {
		name := strings.ToLower(f.Name)
		stands[name] = true
		for _, element := range strings.Split(f.Value, ",") {
			if element = strings.Trim(element, " \t"); element != "" {
				elements[name] = append(elements[name], strings.ToLower(element))
			}
		}
	}
	lengths, codings := elements["content-length"], elements["transfer-encoding"]
	switch {
	case stands["transfer-encoding"]:
		if stands["content-length"] || !slices.Equal(codings, []string{"chunked"}) || minor == 0 {
			return body.Frame{}, api.ErrSmuggle
		}
		return body.Frame{Kind: chunked}, api.OK
	case !stands["content-length"]:
		return body.Frame{}, api.OK
	}
	numbers := map[string]bool{}
	for _, text := range lengths {
		if strings.Trim(text, "0123456789") != "" {
			return body.Frame{}, api.ErrSmuggle
		}
		numbers[strings.TrimLeft(text, "0")] = true
	}
	if len(numbers) != 1 {
		return body.Frame{}, api.ErrSmuggle
	}
	n, _ := strconv.Atoi(lengths[0])
	if n > 2048 {
		return body.Frame{}, api.ErrBig
	}
	return body.Frame{Kind: counted, Length: n}, api.OK
}

func TestFramesOfAnyFields(t *testing.T) {
	names := []string{"Content-Length", "content-length", "Transfer-Encoding", "TRANSFER-ENCODING", "Host", "Content-Length", "Content-Lengths"}
	parts := []string{"", "1", "01", "2", "0", "00", "2048", "2049", "x", "+1", "1 1", "chunked", "Chunked", "gzip", "chunked"}
	r := rand.New(rand.NewSource(6))
	for range 30000 {
		kinds := []int{2, 4, len(names)}[r.Intn(3)]
		begin := r.Intn(len(parts))
		span := 1 + r.Intn(len(parts)-begin)
		var l field.List
		for range r.Intn(4) {
			var values []string
			for range []int{1, 1, 2, 3}[r.Intn(4)] {
				values = append(values, parts[begin+r.Intn(span)])
			}
			l = append(l, field.Field{Name: names[r.Intn(kinds)], Value: strings.Join(values, []string{",", ", ", "\t,"}[r.Intn(3)])})
		}
		minor := r.Intn(2)
		f, e := plainFrame(minor, l)
		wantFrame(t, minor, l, f, e)
	}
}

// P6.2

// want holds what reading a text by a frame tells, closed or not.
func want(t *testing.T, f body.Frame, text string, closed bool, wantBody string, used int, e api.Errno) {
	t.Helper()
	gotBody, gotUsed, gotE := body.Read(f, []byte(text), closed)
	if string(gotBody) != wantBody || gotUsed != used || gotE != e {
		t.Fatalf("Read of %v, %.200q (%d), %t: %.200q, %d, %d, not %.200q, %d, %d", f, text, len(text), closed, gotBody, gotUsed, gotE, wantBody, used, e)
	}
}

// wantWhole holds that a text has a body, closed or not.
func wantWhole(t *testing.T, f body.Frame, text string, wantBody string, used int) {
	t.Helper()
	want(t, f, text, false, wantBody, used, api.OK)
	want(t, f, text, true, wantBody, used, api.OK)
}

// wantError holds the error of a text, which is ErrSyntax of one that lacks
// bytes, if it is closed.
func wantError(t *testing.T, f body.Frame, text string, e api.Errno) {
	t.Helper()
	want(t, f, text, false, "", 0, e)
	if e == api.ErrMore {
		e = api.ErrSyntax
	}
	want(t, f, text, true, "", 0, e)
}

func TestReadOfNoBody(t *testing.T) {
	for _, text := range []string{"", "a", "3\r\nabc\r\n0\r\n\r\n", "\x00", strings.Repeat("x", 100000)} {
		for _, length := range []int{0, 1, 2, api.MaxBody} {
			wantWhole(t, body.Frame{Kind: none, Length: length}, text, "", 0)
		}
	}
}

func TestReadOfEachLength(t *testing.T) {
	all := []byte(strings.Repeat("x", api.MaxBody+300))
	for i := range all {
		all[i] = byte(i * 7)
	}
	text := string(all)
	for _, length := range []int{0, 1, 2, 3, 63, 64, 1000, api.MaxBody - 1, api.MaxBody} {
		for size := range len(text) + 1 {
			f := body.Frame{Kind: counted, Length: length}
			if size < length {
				wantError(t, f, text[:size], api.ErrMore)
			} else {
				wantWhole(t, f, text[:size], text[:length], length)
			}
		}
	}
	for length := range api.MaxBody + 1 {
		wantWhole(t, body.Frame{Kind: counted, Length: length}, text, text[:length], length)
	}
}

func TestReadToTheEnd(t *testing.T) {
	text := strings.Repeat("a\r\n0\x00\xff", 1000)
	for size := range len(text) + 1 {
		for _, length := range []int{0, 1, api.MaxBody} {
			f := body.Frame{Kind: untilEnd, Length: length}
			if size > api.MaxBody {
				want(t, f, text[:size], false, "", 0, api.ErrBig)
				want(t, f, text[:size], true, "", 0, api.ErrBig)
				continue
			}
			want(t, f, text[:size], false, "", 0, api.ErrMore)
			want(t, f, text[:size], true, text[:size], size, api.OK)
		}
	}
}

func TestReadOfWrongFrames(t *testing.T) {
	texts := []string{"", "a", "0\r\n\r\n", strings.Repeat("x", 5000)}
	for _, kind := range []int{-1, 4, 5, 10, 256, 1 << 32, 1<<32 + 1, math.MinInt, math.MinInt32, math.MaxInt} {
		for _, length := range []int{0, 1, api.MaxBody, -1, api.MaxBody + 1} {
			for _, text := range texts {
				want(t, body.Frame{Kind: kind, Length: length}, text, false, "", 0, api.ErrForm)
				want(t, body.Frame{Kind: kind, Length: length}, text, true, "", 0, api.ErrForm)
			}
		}
	}
	for _, length := range []int{-1, -2, api.MaxBody + 1, 1 << 32, math.MinInt, math.MaxInt} {
		for kind := none; kind <= untilEnd; kind++ {
			for _, text := range texts {
				want(t, body.Frame{Kind: kind, Length: length}, text, false, "", 0, api.ErrForm)
				want(t, body.Frame{Kind: kind, Length: length}, text, true, "", 0, api.ErrForm)
			}
		}
	}
}

var chunks = body.Frame{Kind: chunked}

func TestReadOfChunks(t *testing.T) {
	for _, c := range []struct{ text, want string }{
		{"0\r\n\r\n", ""},
		{"00000000\r\n\r\n", ""},
		{"3\r\nabc\r\n0\r\n\r\n", "abc"},
		{"00000003\r\nabc\r\n00\r\n\r\n", "abc"},
		{"1\r\na\r\n2\r\nbc\r\n1\r\nd\r\n0\r\n\r\n", "abcd"},
		{"a\r\n0123456789\r\nA\r\nabcdefghij\r\n0\r\n\r\n", "0123456789abcdefghij"},
		{"0f\r\n0123456789abcde\r\n0\r\n\r\n", "0123456789abcde"},
		{"10\r\n0123456789abcdef\r\n000\r\n\r\n", "0123456789abcdef"},
		{"1B\r\nabcdefghijklmnopqrstuvwxyz!\r\n0\r\n\r\n", "abcdefghijklmnopqrstuvwxyz!"},
		{"5\r\n0\r\n\r\n\r\n0\r\n\r\n", "0\r\n\r\n"},
		{"2\r\n\r\n\r\n0\r\n\r\n", "\r\n"},
		{"4\r\n\x00\xff\x80\n\r\n0\r\n\r\n", "\x00\xff\x80\n"},
		{"800\r\n" + strings.Repeat("x", 2048) + "\r\n0\r\n\r\n", strings.Repeat("x", 2048)},
		{"7fF\r\n" + strings.Repeat("x", 2047) + "\r\n1\r\ny\r\n0\r\n\r\n", strings.Repeat("x", 2047) + "y"},
		{strings.Repeat("1\r\nz\r\n", 2048) + "0\r\n\r\n", strings.Repeat("z", 2048)},
	} {
		for _, rest := range []string{"", "x", "\r\n", "0\r\n\r\n", "3\r\nabc\r\n0\r\n\r\n", "GET / HTTP/1.1\r\n\r\n", strings.Repeat("y", 10000)} {
			wantWhole(t, chunks, c.text+rest, c.want, len(c.text))
		}
		for size := range len(c.text) {
			wantError(t, chunks, c.text[:size], api.ErrMore)
		}
		// Chunks have no Length: what a frame says of it counts for nothing.
		want(t, body.Frame{Kind: chunked, Length: 1}, c.text, false, c.want, len(c.text), api.OK)
		want(t, body.Frame{Kind: chunked, Length: api.MaxBody}, c.text, true, c.want, len(c.text), api.OK)
	}
}

func TestReadOfWrongChunks(t *testing.T) {
	for _, text := range []string{
		"\r", "\n", "\r\n", "\r\n\r\n", " ", " 0\r\n\r\n", "\t0", "x", "g", "G", "/", ":", "@", "`", "-1", "+1\r\na\r\n", "-0", "0x1", "\xff", "\x00", "\x10", "\xb1",
		"000000000", "123456789", "000000003\r\n", "0\n", "0 ", "0\t\r\n", "0\r\r", "0\rx", "0;", "0;a=b\r\n\r\n", "0\n\r\n", "0 \r\n\r\n", "0,", "1g",
		"0\r\na", "0\r\n\n", "0\r\n0", "0\r\n\r\r", "0\r\n\r0", "0\r\nA: b\r\n\r\n", "0\r\n \r\n", "0\r\n0\r\n\r\n",
		"3\nabc", "3\r\nabcd", "3\r\nabc\n", "3\r\nabc0", "3\r\nabc\rx", "3\r\nabc\r\r", "3\r\nabc\n\r", "3\r\nabc0\r\n\r\n", "3\r\nabc ", "3;x\r\nabc\r\n", "3 \r\nabc\r\n0\r\n\r\n", "3\rabc",
		"3\r\nabc\r\n\r\n", "3\r\nabc\r\nx", "3\r\nabc\r\n 0", "3\r\nabc\r\n0\r\nx", "3\r\nabc\r\n000000000", "3\r\nabc\r\n0\n",
		// The line isn't whole, and never will be.
		"801\rx", "801\n", "801x", "801;", "801 \r\n", "ffffffffx", "fffffffff", "fffffffff\r\n",
		// What stands first is told.
		"3\r\nabcd801\r\n", "g\r\n801\r\n",
	} {
		wantError(t, chunks, text, api.ErrSyntax)
		wantError(t, chunks, "1\r\nz\r\n"+text, api.ErrSyntax)
		wantError(t, chunks, text+"\r\n0\r\n\r\n", api.ErrSyntax)
	}
}

func TestReadOfBigChunks(t *testing.T) {
	full := "800\r\n" + strings.Repeat("x", 2048) + "\r\n"
	nearly := "7ff\r\n" + strings.Repeat("x", 2047) + "\r\n"
	for _, c := range []struct {
		text string
		want api.Errno
	}{
		{"801", api.ErrMore},
		{"801\r", api.ErrMore},
		{"801\r\n", api.ErrBig},
		{"00000801\r\n", api.ErrBig},
		{"1000\r\n", api.ErrBig},
		{"7fffffff\r\n", api.ErrBig},
		{"80000000\r\n", api.ErrBig},
		{"ffffffff\r\n", api.ErrBig},
		{"FFFFFFFF\r", api.ErrMore},
		{"801\r\n" + strings.Repeat("x", 2049) + "\r\n0\r\n\r\n", api.ErrBig},
		{"801\r\n" + strings.Repeat("x", 2049) + "y", api.ErrBig},
		{"800\r\n", api.ErrMore},
		{"800\r\n" + strings.Repeat("x", 2048) + "y", api.ErrSyntax},

		{full + "1", api.ErrMore},
		{full + "1\r", api.ErrMore},
		{full + "1\rx", api.ErrSyntax},
		{full + "1x", api.ErrSyntax},
		{full + "1\r\n", api.ErrBig},
		{full + "1\r\ny\r\n0\r\n\r\n", api.ErrBig},
		{full + "0\r\n", api.ErrMore},
		{nearly + "1\r\n", api.ErrMore},
		{nearly + "2\r\n", api.ErrBig},
		{nearly + "ffffffff\r\n", api.ErrBig},
		{nearly + "1\r\ny\r\n1\r\n", api.ErrBig},
		{strings.Repeat("1\r\nz\r\n", 2048), api.ErrMore},
		{strings.Repeat("1\r\nz\r\n", 2049), api.ErrBig},
		{strings.Repeat("1\r\nz\r\n", 2048) + "1\r\n", api.ErrBig},
		{"1\r\nz\r\n" + "800\r\n", api.ErrBig},
	} {
		wantError(t, chunks, c.text, c.want)
	}
}

// What plain reading reads by: a number's line, and what of one can stand at
// the end of the bytes that came.
var (
	numberLine = regexp.MustCompile(`^([0-9a-fA-F]{1,8})\r\n`)
	begunLine  = regexp.MustCompile(`^([0-9a-fA-F]{0,8}|[0-9a-fA-F]{1,8}\r)$`)
)

// plainChunks reads chunks line by line.
func plainChunks(text string) (string, int, api.Errno) {
	said, rest := "", text
	for {
		line := numberLine.FindStringSubmatch(rest)
		switch {
		case line == nil && begunLine.MatchString(rest):
			return "", 0, api.ErrMore
		case line == nil:
			return "", 0, api.ErrSyntax
		}
		n, _ := strconv.ParseInt(line[1], 16, 64)
		size := int(n)
		rest = rest[len(line[0]):]
		switch {
		case len(said)+size > 2048:
			return "", 0, api.ErrBig
		case len(rest) < size+2 && strings.HasPrefix("\r\n", rest[min(size, len(rest)):]):
			return "", 0, api.ErrMore
		case len(rest) < size+2 || rest[size:size+2] != "\r\n":
			return "", 0, api.ErrSyntax
		}
		said, rest = said+rest[:size], rest[size+2:]
		if size == 0 {
			return said, len(text) - len(rest), api.OK
		}
	}
}

// holdRead holds the reading of a text against the plain one.
func holdRead(t *testing.T, text string) {
	t.Helper()
	if said, used, e := plainChunks(text); e == api.OK {
		wantWhole(t, chunks, text, said, used)
	} else {
		wantError(t, chunks, text, e)
	}
}

// TestReadOfEachChange changes each byte of some chunks to each other one,
// leaves each out, doubles each, and puts each byte between.
func TestReadOfEachChange(t *testing.T) {
	for _, text := range []string{
		"0\r\n\r\n",
		"3\r\nabc\r\n0\r\n\r\n",
		"0a\r\n0123456789\r\n1\r\n\r\r\n00000000\r\n\r\n",
		"00000001\r\nz\r\n0\r\n\r\nrest",
		"7ff\r\n" + strings.Repeat("x", 2047) + "\r\n1\r\ny\r\n0\r\n\r\n",
	} {
		for i := range text {
			if 10 < i && i < 2000 {
				continue
			}
			holdRead(t, text[:i])
			holdRead(t, text[i:])
			holdRead(t, text[:i]+text[i+1:])
			holdRead(t, text[:i]+text[i:i+1]+text[i:])
			for c := range 256 {
				s := string([]byte{byte(c)})
				holdRead(t, text[:i]+s+text[i+1:])
				holdRead(t, text[:i]+s+text[i:])
				holdRead(t, text[:i]+s)
			}
		}
	}
}

// TestReadOfShortTexts holds each text of a few signs.
func TestReadOfShortTexts(t *testing.T) {
	const signs = "01a\r\nx"
	var each func(text string, more int)
	each = func(text string, more int) {
		holdRead(t, text)
		holdRead(t, "1\r\nx\r\n"+text)
		if more == 0 {
			return
		}
		for i := range signs {
			each(text+signs[i:i+1], more-1)
		}
	}
	each("", 6)
}

func TestReadOfAnyParts(t *testing.T) {
	parts := []string{
		"0\r\n\r\n", "1\r\na\r\n", "2\r\n\r\n\r\n", "A\r\n0123456789\r\n", "001\r\n\x00\r\n", "400\r\n" + strings.Repeat("k", 1024) + "\r\n",
		"\r\n", "\r", "\n", "0", "3ff", "800\r\n", "x", " ", "00000000", "\xff",
	}
	r := rand.New(rand.NewSource(66))
	for range 60000 {
		kinds := []int{6, 6, len(parts)}[r.Intn(3)]
		text := ""
		for range r.Intn(8) {
			text += parts[r.Intn(kinds)]
		}
		holdRead(t, text)
	}
}

// P6.3

// plainText is chunks of just these bytes each, and the last one.
func plainText(bodies ...string) string {
	text := ""
	for _, s := range bodies {
		text += strconv.FormatInt(int64(len(s)), 16) + "\r\n" + s + "\r\n"
	}
	return text + "0\r\n\r\n"
}

func TestChunks(t *testing.T) {
	for _, c := range []struct {
		said  string
		sizes []int
		want  string
	}{
		{"abc", nil, "3\r\nabc\r\n0\r\n\r\n"},
		{"", nil, "0\r\n\r\n"},
		{"", []int{1, 2, 3}, "0\r\n\r\n"},
		{"", []int{0, -1}, "0\r\n\r\n"},
		{"abc", []int{3}, "3\r\nabc\r\n0\r\n\r\n"},
		{"abc", []int{1}, "1\r\na\r\n2\r\nbc\r\n0\r\n\r\n"},
		{"abc", []int{1, 1}, "1\r\na\r\n1\r\nb\r\n1\r\nc\r\n0\r\n\r\n"},
		{"abc", []int{1, 1, 1}, "1\r\na\r\n1\r\nb\r\n1\r\nc\r\n0\r\n\r\n"},
		{"abc", []int{1, 1, 1, 1, 1}, "1\r\na\r\n1\r\nb\r\n1\r\nc\r\n0\r\n\r\n"},
		{"abc", []int{2, 2}, "2\r\nab\r\n1\r\nc\r\n0\r\n\r\n"},
		{"abc", []int{4}, "3\r\nabc\r\n0\r\n\r\n"},
		{"abc", []int{2, 100, 1}, "2\r\nab\r\n1\r\nc\r\n0\r\n\r\n"},
		{"abc", []int{0}, "3\r\nabc\r\n0\r\n\r\n"},
		{"abc", []int{-1, 0, math.MinInt}, "3\r\nabc\r\n0\r\n\r\n"},
		{"abc", []int{0, 2, -5, 0, 1}, "2\r\nab\r\n1\r\nc\r\n0\r\n\r\n"},
		{"abc", []int{math.MaxInt, 1}, "3\r\nabc\r\n0\r\n\r\n"},
		{"abc", []int{1, math.MaxInt}, "1\r\na\r\n2\r\nbc\r\n0\r\n\r\n"},
		{"\r\n0\r\n\r\n", []int{2}, "2\r\n\r\n\r\n5\r\n0\r\n\r\n\r\n0\r\n\r\n"},
		{"\x00\xff", []int{1}, "1\r\n\x00\r\n1\r\n\xff\r\n0\r\n\r\n"},
		{"0123456789abcde", nil, "f\r\n0123456789abcde\r\n0\r\n\r\n"},
		{"0123456789abcdef", nil, "10\r\n0123456789abcdef\r\n0\r\n\r\n"},
		{"abcdefghijklmnopqr", []int{1, 0, -3, 16, 9}, "1\r\na\r\n10\r\nbcdefghijklmnopq\r\n1\r\nr\r\n0\r\n\r\n"},
	} {
		if s := string(body.Chunks([]byte(c.said), c.sizes...)); s != c.want {
			t.Errorf("Chunks of %q, %d: %q, not %q", c.said, c.sizes, s, c.want)
		}
		wantWhole(t, chunks, c.want, c.said, len(c.want))
	}
}

func TestChunksOfEachSize(t *testing.T) {
	long := strings.Repeat("0123456789", 500)
	for size := range len(long) {
		want := plainText(long[:size])
		if size == 0 {
			want = plainText()
		}
		if s := string(body.Chunks([]byte(long[:size]))); s != want {
			t.Fatalf("Chunks of %d bytes: %.20q, not %.20q", size, s, want)
		}
		if size > api.MaxBody {
			wantError(t, chunks, want, api.ErrBig)
		} else {
			wantWhole(t, chunks, want+"rest", long[:size], len(want))
		}
	}
	big := strings.Repeat("b", 0xabcdef)
	if s := string(body.Chunks([]byte(big), 0xabc)); s != plainText(big[:0xabc], big[0xabc:]) || !strings.HasPrefix(s, "abc\r\n") {
		t.Errorf("Chunks of %d bytes: %.20q", len(big), s)
	}
}

func TestChunksOfAnySizes(t *testing.T) {
	r := rand.New(rand.NewSource(666))
	for range 5000 {
		b := make([]byte, []int{0, 1, r.Intn(40), r.Intn(api.MaxBody + 1), api.MaxBody}[r.Intn(5)])
		r.Read(b)
		sizes := make([]int, []int{0, 1, r.Intn(10), r.Intn(100)}[r.Intn(4)])
		most := []int{3, 40, 3000}[r.Intn(3)]
		rest := string(b)
		var bodies []string
		for i := range sizes {
			sizes[i] = r.Intn(most) - most/4
			if n := min(sizes[i], len(rest)); n > 0 {
				bodies = append(bodies, rest[:n])
				rest = rest[n:]
			}
		}
		if rest != "" {
			bodies = append(bodies, rest)
		}
		text := string(body.Chunks(b, sizes...))
		if text != plainText(bodies...) {
			t.Fatalf("Chunks of %q, %d: %q", b, sizes, text)
		}
		wantWhole(t, chunks, text, string(b), len(text))
		wantWhole(t, chunks, text+"more", string(b), len(text))
		wantError(t, chunks, text[:len(text)-1], api.ErrMore)
	}
}

// Memory

// spoil overwrites a list, its spare room too.
func spoil(b []byte) {
	whole := b[:cap(b)]
	for i := range whole {
		whole[i] = '!'
	}
}

// wantOwn holds that what a call makes of b shares no memory with it nor with
// the next answer, and changes neither b nor its spare room.
func wantOwn(t *testing.T, text string, want string, call func(b []byte) []byte) {
	t.Helper()
	room := []byte(text + "behind")
	b := room[:len(text)]
	first, second := call(b), call(b)
	if string(room) != text+"behind" {
		t.Errorf("an argument was changed: %q", room)
	}
	spoil(first)
	if string(room) != text+"behind" {
		t.Errorf("an answer shares an argument's memory: %q", room)
	}
	spoil(room)
	if string(second) != want {
		t.Errorf("an answer shares memory: %q, not %q", second, want)
	}
}

func TestReadsShareNothing(t *testing.T) {
	for _, c := range []struct {
		f          body.Frame
		text, want string
	}{
		{body.Frame{Kind: none}, "abcdef", ""},
		{body.Frame{Kind: counted, Length: 3}, "abcdef", "abc"},
		{body.Frame{Kind: counted, Length: 6}, "abcdef", "abcdef"},
		{body.Frame{Kind: counted}, "abcdef", ""},
		{body.Frame{Kind: untilEnd}, "abcdef", "abcdef"},
		{body.Frame{Kind: untilEnd}, "", ""},
		{chunks, "3\r\nabc\r\n0\r\n\r\nrest", "abc"},
		{chunks, "3\r\nabc\r\n2\r\nde\r\n0\r\n\r\n", "abcde"},
		{chunks, "0\r\n\r\n", ""},
	} {
		wantOwn(t, c.text, c.want, func(b []byte) []byte {
			said, _, _ := body.Read(c.f, b, true)
			return said
		})
	}
}

func TestChunksShareNothing(t *testing.T) {
	room := []int{1, 2, -1, 3, 4}
	sizes := room[:3]
	wantOwn(t, "abcdef", "1\r\na\r\n2\r\nbc\r\n3\r\ndef\r\n0\r\n\r\n", func(b []byte) []byte { return body.Chunks(b, sizes...) })
	wantOwn(t, "abc", "3\r\nabc\r\n0\r\n\r\n", func(b []byte) []byte { return body.Chunks(b) })
	wantOwn(t, "", "0\r\n\r\n", func(b []byte) []byte { return body.Chunks(b) })
	if !slices.Equal(room, []int{1, 2, -1, 3, 4}) {
		t.Errorf("an argument was changed: %d", room)
	}
}

func TestFramesLeaveFields(t *testing.T) {
	room := fields("Content-Length", "1, 01", "CONTENT-LENGTH", "1", "Transfer-Encoding", "chunked")
	body.OfRequest(request("GET", 1, room[:2]))
	body.OfResponse("GET", response(200, 1, room[:2]))
	if !slices.Equal(room, fields("Content-Length", "1, 01", "CONTENT-LENGTH", "1", "Transfer-Encoding", "chunked")) {
		t.Errorf("an argument was changed: %q", room)
	}
}

func TestNilAndEmpty(t *testing.T) {
	for _, b := range [][]byte{nil, {}} {
		for _, c := range []struct {
			f body.Frame
			e api.Errno
		}{
			{body.Frame{}, api.OK}, {body.Frame{Kind: counted}, api.OK}, {body.Frame{Kind: counted, Length: 1}, api.ErrSyntax},
			{chunks, api.ErrSyntax}, {body.Frame{Kind: untilEnd}, api.OK}, {body.Frame{Kind: 4}, api.ErrForm},
		} {
			if said, used, e := body.Read(c.f, b, true); len(said) != 0 || used != 0 || e != c.e {
				t.Errorf("%v: %q, %d, %d", c.f, said, used, e)
			}
		}
		if s := body.Chunks(b, []int{}...); !bytes.Equal(s, []byte("0\r\n\r\n")) {
			t.Errorf("%q", s)
		}
	}
}
