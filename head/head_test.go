package head_test

import (
	"bytes"
	"math"
	"math/rand"
	"regexp"
	"slices"
	"strconv"
	"strings"
	"testing"

	"pantry/api"
	"pantry/field"
	"pantry/head"
)

const tokenSigns = "abcdefghijklmnopqrstuvwxyzABCDEFGHIJKLMNOPQRSTUVWXYZ0123456789" + "!#$%&'*+-.^_|\x60\x7e"

// fields are made of names and values, one after the other.
func fields(parts ...string) field.List {
	var l field.List
	for i := 0; i < len(parts); i += 2 {
		l = append(l, field.Field{Name: parts[i], Value: parts[i+1]})
	}
	return l
}

func many(n int) field.List { return field.List(slices.Repeat(fields("a", "v"), n)) }

func request(method string, target string, minor int, l field.List) head.Request {
	return head.Request{Method: method, Target: target, Head: head.Head{Minor: minor, List: l}}
}

func response(status int, reason string, minor int, l field.List) head.Response {
	return head.Response{Status: status, Reason: reason, Head: head.Head{Minor: minor, List: l}}
}

// eachByte tells f every byte, as a text.
func eachByte(f func(c byte, s string)) {
	for c := range 256 {
		f(byte(c), string([]byte{byte(c)}))
	}
}

func sameRequest(a head.Request, b head.Request) bool {
	return a.Method == b.Method && a.Target == b.Target && a.Minor == b.Minor && slices.Equal(a.List, b.List)
}

func sameResponse(a head.Response, b head.Response) bool {
	return a.Status == b.Status && a.Reason == b.Reason && a.Minor == b.Minor && slices.Equal(a.List, b.List)
}

// wantRequest holds whether a request is right, and what it is then shown as.
func wantRequest(t *testing.T, r head.Request, want bool) {
	t.Helper()
	if r.Right() != want {
		t.Fatalf("Right of %.80q, %.80q (%d, %d), %d, %d fields is not %t", r.Method, r.Target, len(r.Method), len(r.Target), r.Minor, len(r.List), want)
	}
	text := r.Method + " " + r.Target + " HTTP/1." + strconv.Itoa(r.Minor) + "\r\n" + plainFields(r.List)
	got, e := head.ShowRequest(r)
	wantShown(t, got, e, text, want)
}

func wantResponse(t *testing.T, r head.Response, want bool) {
	t.Helper()
	if r.Right() != want {
		t.Fatalf("Right of %d, %.80q (%d), %d, %d fields is not %t", r.Status, r.Reason, len(r.Reason), r.Minor, len(r.List), want)
	}
	text := "HTTP/1." + strconv.Itoa(r.Minor) + " " + strconv.Itoa(r.Status) + " " + r.Reason + "\r\n" + plainFields(r.List)
	got, e := head.ShowResponse(r)
	wantShown(t, got, e, text, want)
}

func plainFields(l field.List) string {
	text := ""
	for _, f := range l {
		text += f.Name + ": " + f.Value + "\r\n"
	}
	return text + "\r\n"
}

func wantShown(t *testing.T, got string, e api.Errno, text string, right bool) {
	t.Helper()
	want := api.OK
	switch {
	case !right:
		text, want = "", api.ErrForm
	case len(text) > api.MaxHead:
		text, want = "", api.ErrLong
	}
	if e != want || got != text {
		t.Fatalf("shown: %.200q, %d, not %.200q, %d", got, e, text, want)
	}
}

// P5.1

func TestRequestOfEachByte(t *testing.T) {
	eachByte(func(c byte, s string) {
		token := strings.Contains(tokenSigns, s)
		for _, method := range []string{s, "A" + s, s + "A", "A" + s + "A"} {
			wantRequest(t, request(method, "/", 1, nil), token)
		}
		target := 0x21 <= c && c <= 0x7e
		for _, text := range []string{s, "/" + s, s + "/", "/" + s + "/"} {
			wantRequest(t, request("GET", text, 1, nil), target)
		}
	})
}

func TestResponseOfEachByte(t *testing.T) {
	eachByte(func(c byte, s string) {
		within := c >= 0x20 && c != 0x7f || c == 0x09
		wantResponse(t, response(200, "O"+s+"K", 1, nil), within)
		for _, reason := range []string{s, "O" + s, s + "K", s + s} {
			wantResponse(t, response(200, reason, 1, nil), within && c != 0x20 && c != 0x09)
		}
	})
}

func TestRightRequest(t *testing.T) {
	for _, c := range []struct {
		r    head.Request
		want bool
	}{
		{request("GET", "/", 1, nil), true},
		{request("get", "*", 0, fields("Host", "a", "A", "")), true},
		{request("M-SEARCH", "http://a:80/x?y#z", 1, fields("a", "\xff\x80")), true},

		{head.Request{}, false},
		{request("", "/", 1, nil), false},
		{request("GET", "", 1, nil), false},
		{request("GET ", "/", 1, nil), false},
		{request("GET", " /", 1, nil), false},
		{request("GET", "/ ", 1, nil), false},
		{request("GET", "/é", 1, nil), false},
		{request("G\xc3T", "/", 1, nil), false},
		{request("GET", "/\xc3a", 1, nil), false},
		{request("GET", "/\ufffd", 1, nil), false},

		{request(strings.Repeat("A", 15), "/", 1, nil), true},
		{request(strings.Repeat("A", 16), "/", 1, nil), true},
		{request(strings.Repeat("A", 17), "/", 1, nil), false},
		{request(strings.Repeat("A", 100000), "/", 1, nil), false},
		{request("GET", strings.Repeat("/", api.MaxTarget-1), 1, nil), true},
		{request("GET", strings.Repeat("/", api.MaxTarget), 1, nil), true},
		{request("GET", strings.Repeat("/", api.MaxTarget+1), 1, nil), false},
		{request("GET", strings.Repeat("/", 100000), 1, nil), false},
		{request(strings.Repeat("A", 16), strings.Repeat("/", api.MaxTarget), 0, nil), true},
	} {
		wantRequest(t, c.r, c.want)
	}
}

func TestRightResponse(t *testing.T) {
	for _, c := range []struct {
		r    head.Response
		want bool
	}{
		{response(200, "OK", 1, nil), true},
		{response(404, "Not \t Found", 0, fields("a", "1", "b", "")), true},
		{response(204, "", 1, nil), true},
		{response(200, "é\xff", 1, nil), true},

		{head.Response{}, false},
		{response(200, " ", 1, nil), false},
		{response(200, "\t", 1, nil), false},
		{response(200, "a\r\nb: c", 1, nil), false},
		{response(200, "\xc3\x01", 1, nil), false},

		{response(200, strings.Repeat("a", api.MaxName-1), 1, nil), true},
		{response(200, strings.Repeat("a", api.MaxName), 1, nil), true},
		{response(200, strings.Repeat("a", api.MaxName+1), 1, nil), false},
		{response(200, strings.Repeat("a", 100000), 1, nil), false},
		{response(200, strings.Repeat("é", api.MaxName/2), 1, nil), true},
		{response(200, strings.Repeat("é", api.MaxName/2)+"a", 1, nil), false},
		{response(200, "a"+strings.Repeat(" ", api.MaxName-2)+"a", 1, nil), true},
		{response(200, strings.Repeat("a", api.MaxName)+" ", 1, nil), false},
	} {
		wantResponse(t, c.r, c.want)
	}
}

func TestRightStatus(t *testing.T) {
	for status := -1000; status < 2000; status++ {
		wantResponse(t, response(status, "OK", 1, nil), 100 <= status && status <= 599)
	}
	for _, status := range []int{math.MinInt, math.MinInt32, 1<<32 + 200, math.MaxInt} {
		wantResponse(t, response(status, "OK", 1, nil), false)
	}
}

func TestRightMinor(t *testing.T) {
	for _, minor := range []int{math.MinInt, -2, -1, 0, 1, 2, 9, 10, 1 << 32, math.MaxInt} {
		wantRequest(t, request("GET", "/", minor, nil), minor == 0 || minor == 1)
		wantResponse(t, response(200, "OK", minor, nil), minor == 0 || minor == 1)
	}
}

func TestRightFields(t *testing.T) {
	for _, c := range []struct {
		l    field.List
		want bool
	}{
		{nil, true},
		{field.List{}, true},
		{fields("a", "1", "A", "", "a", "x y"), true},
		{many(api.MaxFields), true},
		{fields(strings.Repeat("a", api.MaxName), strings.Repeat("v", api.MaxValue)), true},

		{many(api.MaxFields + 1), false},
		{many(5000), false},
		{fields("", "1"), false},
		{fields("a", "1", "a b", "1", "c", "3"), false},
		{fields("a", " 1"), false},
		{fields("a", "1\t"), false},
		{fields("a", "1\r\nb: 2"), false},
		{append(many(20), field.Field{Name: "a:", Value: "1"}), false},
		{fields(strings.Repeat("a", api.MaxName+1), "1"), false},
		{fields("a", strings.Repeat("v", api.MaxValue+1)), false},
	} {
		wantRequest(t, request("GET", "/", 1, c.l), c.want)
		wantResponse(t, response(200, "OK", 0, c.l), c.want)
	}
}

func TestShow(t *testing.T) {
	for _, c := range []struct {
		r    head.Request
		want string
	}{
		{request("GET", "/", 1, nil), "GET / HTTP/1.1\r\n\r\n"},
		{request("PUT", "/a?b", 0, fields("Host", "a")), "PUT /a?b HTTP/1.0\r\nHost: a\r\n\r\n"},
		{request("X", "*", 1, fields("b", "2", "A", "", "B", "x \t,y", "c", "\xff")), "X * HTTP/1.1\r\nb: 2\r\nA: \r\nB: x \t,y\r\nc: \xff\r\n\r\n"},
	} {
		if s, e := head.ShowRequest(c.r); e != api.OK || s != c.want {
			t.Errorf("%q, %d, not %q", s, e, c.want)
		}
	}
	for _, c := range []struct {
		r    head.Response
		want string
	}{
		{response(204, "", 1, nil), "HTTP/1.1 204 \r\n\r\n"},
		{response(100, "a", 0, fields("A", "1", "a", "1")), "HTTP/1.0 100 a\r\nA: 1\r\na: 1\r\n\r\n"},
		{response(599, "Not  Found", 1, fields("Vary", "")), "HTTP/1.1 599 Not  Found\r\nVary: \r\n\r\n"},
	} {
		if s, e := head.ShowResponse(c.r); e != api.OK || s != c.want {
			t.Errorf("%q, %d, not %q", s, e, c.want)
		}
	}
}

// filled is fields whose lines and the empty one have just so many bytes.
func filled(size int) field.List {
	var l field.List
	for size -= 2; size > 1005+5; size -= 1005 {
		l = append(l, field.Field{Name: "a", Value: strings.Repeat("b", 1000)})
	}
	return append(l, field.Field{Name: "c", Value: strings.Repeat("d", size-5)})
}

func TestShowOfEachSize(t *testing.T) {
	const requestLine, responseLine = len("GET / HTTP/1.1\r\n"), len("HTTP/1.1 200 OK\r\n")
	for size := 3000; size < 5200; size++ {
		q, p := request("GET", "/", 1, filled(size-requestLine)), response(200, "OK", 1, filled(size-responseLine))
		s, e := head.ShowRequest(q)
		if size <= api.MaxHead && (e != api.OK || len(s) != size) || size > api.MaxHead && (e != api.ErrLong || s != "") {
			t.Fatalf("ShowRequest of %d bytes: %d, %d", size, len(s), e)
		}
		s, e = head.ShowResponse(p)
		if size <= api.MaxHead && (e != api.OK || len(s) != size) || size > api.MaxHead && (e != api.ErrLong || s != "") {
			t.Fatalf("ShowResponse of %d bytes: %d, %d", size, len(s), e)
		}
		wantBack(t, q)
		wantResponseBack(t, p)
	}
}

func TestErrFormAheadOfErrLong(t *testing.T) {
	l := filled(5000)
	if s, e := head.ShowRequest(request("G T", "/", 1, l)); e != api.ErrForm || s != "" {
		t.Errorf("%.80q, %d", s, e)
	}
	if s, e := head.ShowResponse(response(99, "", 1, l)); e != api.ErrForm || s != "" {
		t.Errorf("%.80q, %d", s, e)
	}
}

// P5.2

// want is what reading a text as a request tells.
func want(t *testing.T, text string, r head.Request, used int, e api.Errno) {
	t.Helper()
	if gotR, gotUsed, gotE := head.ReadRequest([]byte(text)); gotE != e || gotUsed != used || !sameRequest(gotR, r) {
		t.Fatalf("ReadRequest(%.200q): %#v, %d, %d, not %#v, %d, %d", text, gotR, gotUsed, gotE, r, used, e)
	}
}

func wantOfResponse(t *testing.T, text string, r head.Response, used int, e api.Errno) {
	t.Helper()
	if gotR, gotUsed, gotE := head.ReadResponse([]byte(text)); gotE != e || gotUsed != used || !sameResponse(gotR, r) {
		t.Fatalf("ReadResponse(%.200q): %#v, %d, %d, not %#v, %d, %d", text, gotR, gotUsed, gotE, r, used, e)
	}
}

// wantError holds the error of reading a text, beside which nothing is told.
func wantError(t *testing.T, text string, e api.Errno) {
	t.Helper()
	want(t, text, head.Request{}, 0, e)
}

func wantErrorOfResponse(t *testing.T, text string, e api.Errno) {
	t.Helper()
	wantOfResponse(t, text, head.Response{}, 0, e)
}

func TestReadRequest(t *testing.T) {
	for _, c := range []struct {
		text string
		r    head.Request
	}{
		{"GET / HTTP/1.1\r\n\r\n", request("GET", "/", 1, nil)},
		{"GET / HTTP/1.1\r\nHost: a\r\n\r\n", request("GET", "/", 1, fields("Host", "a"))},
		{"get * HTTP/1.0\r\nHost:a\r\nHOST:\tb \r\n\r\n", request("get", "*", 0, fields("Host", "a", "HOST", "b"))},
		{"! \" HTTP/1.1\r\na:\r\nb: \t \r\nc::\r\n\r\n", request("!", "\"", 1, fields("a", "", "b", "", "c", ":"))},
		{"A http://x:8/?a#b HTTP/1.1\r\na: \t x \t y \t\r\n\r\n", request("A", "http://x:8/?a#b", 1, fields("a", "x \t y"))},
		{"A / HTTP/1.1\r\na: \xff\x80é\r\n\r\n", request("A", "/", 1, fields("a", "\xff\x80é"))},
		{"A / HTTP/1.1\r\na: b\r\nc: b: d\r\n\r\n", request("A", "/", 1, fields("a", "b", "c", "b: d"))},
	} {
		for _, rest := range []string{"", "rest", "\r\n\r\n", "\r\nA: b\r\n\r\n", "\x00", strings.Repeat("x", 100000)} {
			want(t, c.text+rest, c.r, len(c.text), api.OK)
		}
		for i := range c.text {
			wantError(t, c.text[:i], api.ErrMore)
		}
	}
	r, _, _ := head.ReadRequest([]byte("GET / HTTP/1.1\r\nHost: a\r\nhOst: b, C\r\n\r\n"))
	if s, ok := r.Get("HOST"); !ok || s != "a, b, C" || len(r.All("host")) != 2 || !r.Has("host", "c") {
		t.Errorf("the fields of %#v", r)
	}
}

func TestReadResponse(t *testing.T) {
	for _, c := range []struct {
		text string
		r    head.Response
	}{
		{"HTTP/1.1 200 OK\r\n\r\n", response(200, "OK", 1, nil)},
		{"HTTP/1.0 404 Not Found\r\nA: 1\r\n\r\n", response(404, "Not Found", 0, fields("A", "1"))},
		{"HTTP/1.1 100 \r\nA:\r\na: \r\n\r\n", response(100, "", 1, fields("A", "", "a", ""))},
		{"HTTP/1.1 599 a  b\tc d\r\n\r\n", response(599, "a  b\tc d", 1, nil)},
		{"HTTP/1.1 304 \xffé\r\nb:\t,\t\r\n\r\n", response(304, "\xffé", 1, fields("b", ","))},
	} {
		for _, rest := range []string{"", "rest", "\r\n\r\n", "\r\nA: b\r\n\r\n", "\x00", strings.Repeat("x", 100000)} {
			wantOfResponse(t, c.text+rest, c.r, len(c.text), api.OK)
		}
		for i := range c.text {
			wantErrorOfResponse(t, c.text[:i], api.ErrMore)
		}
	}
	r, _, _ := head.ReadResponse([]byte("HTTP/1.1 200 \r\nVary: a\r\nvary: b, C\r\n\r\n"))
	if s, ok := r.Get("VARY"); !ok || s != "a, b, C" || !r.Has("vary", "c") {
		t.Errorf("the fields of %#v", r)
	}
}

func TestHeadsThatDoNotEnd(t *testing.T) {
	for _, part := range []string{"a", "\r", "\n", "\r\n\n", "\r\r\n", "\n\r\r", "a\r\n", "\x00", "GET / HTTP/1.1\r\nA:b\r\n"} {
		for _, size := range []int{0, 1, 2, 3, 4, 100, 4090, 4091, 4092, 4093, 4094, 4095, 4096, 4097, 4098, 4099, 4100, 8192, 100000} {
			text := strings.Repeat(part, size/len(part)+1)[:size]
			e := api.ErrMore
			if size >= api.MaxHead {
				e = api.ErrLong
			}
			wantError(t, text, e)
			wantErrorOfResponse(t, text, e)
		}
	}
	wantError(t, "", api.ErrMore)
	if r, n, e := head.ReadRequest(nil); e != api.ErrMore || n != 0 || !sameRequest(r, head.Request{}) {
		t.Errorf("ReadRequest(nil): %#v, %d, %d", r, n, e)
	}
	if r, n, e := head.ReadResponse(nil); e != api.ErrMore || n != 0 || !sameResponse(r, head.Response{}) {
		t.Errorf("ReadResponse(nil): %#v, %d, %d", r, n, e)
	}
}

// TestHeadsOfEachSize ends heads, right ones and others, around MaxHead, with
// and without bytes behind them.
func TestHeadsOfEachSize(t *testing.T) {
	for size := 4000; size < 4200; size++ {
		q, p := request("GET", "/", 1, filled(size-16)), response(200, "", 1, filled(size-15))
		texts := []string{"GET / HTTP/1.1\r\n" + plainFields(q.List), "HTTP/1.1 200 \r\n" + plainFields(p.List)}
		for _, rest := range []string{"", "x", "\r\n", strings.Repeat("y", 300)} {
			wrong := strings.Repeat("a", size-4) + "\r\n\r\n" + rest
			if size > api.MaxHead {
				wantError(t, texts[0]+rest, api.ErrLong)
				wantErrorOfResponse(t, texts[1]+rest, api.ErrLong)
				wantError(t, wrong, api.ErrLong)
				wantErrorOfResponse(t, wrong, api.ErrLong)
				continue
			}
			want(t, texts[0]+rest, q, size, api.OK)
			wantOfResponse(t, texts[1]+rest, p, size, api.OK)
			wantError(t, wrong, api.ErrSyntax)
			wantErrorOfResponse(t, wrong, api.ErrSyntax)
		}
	}
}

func TestReadOfWrongFirstLines(t *testing.T) {
	for _, line := range []string{
		"", " ", "  ", "GET", "GET /", "GET / ", "GET HTTP/1.1", "GET  HTTP/1.1", " / HTTP/1.1", "/ HTTP/1.1",
		"GET  / HTTP/1.1", "GET /  HTTP/1.1", " GET / HTTP/1.1", "GET / HTTP/1.1 ", "GET / HTTP/1.1\t", "GET / HTTP/1.1  ", "GET / a HTTP/1.1", "GET / HTTP/1.1 HTTP/1.1",
		"GET\t/ HTTP/1.1", "GET\t / HTTP/1.1", "GET /\tHTTP/1.1", "GET \t/ HTTP/1.1", "GET /\t HTTP/1.1",
		"G@T / HTTP/1.1", "GET: / HTTP/1.1", "GÉT / HTTP/1.1", "G\xffT / HTTP/1.1", "G\x00T / HTTP/1.1", "GET,PUT / HTTP/1.1",
		"GET \x7f HTTP/1.1", "GET /é HTTP/1.1", "GET /\xff HTTP/1.1", "GET /\x00 HTTP/1.1", "GET /\xc3/ HTTP/1.1",
		"GET / HTTP/1.2", "GET / HTTP/2.0", "GET / HTTP/0.9", "GET / HTTP/1.", "GET / HTTP/1", "GET / HTTP/1.10", "GET / HTTP/1.01", "GET / HTTP/01.1", "GET / http/1.1", "GET / HTTP/1,1", "GET / HTTP 1.1", "GET / HTTP/1.1a", "GET / XHTTP/1.1", "GET / HTTP/1.\xb1", "GET / HTTPS/1.1", "GET / HTTP/11",
		"GET / HTTP/1.1\r", "GET / HTTP/1.1\n", "GET / HTTP/1.1\nA: b", "GET /\n HTTP/1.1", "GET\r / HTTP/1.1", "\rGET / HTTP/1.1", "\nGET / HTTP/1.1", "\r\nGET / HTTP/1.1", "GET / HTTP/1.1\r\r",
		"HTTP/1.1 200 OK",
	} {
		wantError(t, line+"\r\n\r\n", api.ErrSyntax)
		wantError(t, line+"\r\nHost: a\r\n\r\nrest", api.ErrSyntax)
	}
}

func TestReadOfWrongFirstLinesOfResponses(t *testing.T) {
	for _, line := range []string{
		"", " ", "  ", "   ", "HTTP/1.1", "HTTP/1.1 ", "HTTP/1.1 200", "HTTP/1.1  ", "HTTP/1.1  OK", "200 OK", " 200 OK",
		"HTTP/1.1  200 OK", " HTTP/1.1 200 OK", "HTTP/1.1 200  OK", "HTTP/1.1 200  ", "HTTP/1.1 200\tOK", "HTTP/1.1\t200 OK", "HTTP/1.1 200 \tOK", "HTTP/1.1 200\t OK", "HTTP/1.1 200 OK ", "HTTP/1.1 200 OK\t", "HTTP/1.1 200 \t",
		"HTTP/1.1 0 a", "HTTP/1.1 20 a", "HTTP/1.1 2000 a", "HTTP/1.1 0200 a", "HTTP/1.1 000 a", "HTTP/1.1 099 a", "HTTP/1.1 600 a", "HTTP/1.1 999 a", "HTTP/1.1 +20 a", "HTTP/1.1 -20 a", "HTTP/1.1 2_0 a", "HTTP/1.1 2x0 a", "HTTP/1.1 abc a", "HTTP/1.1 20\xb0 a", "HTTP/1.1 ٢٠ a", "HTTP/1.1 2.0 a", "HTTP/1.1 0x8 a", "HTTP/1.1 4294967496 a", "HTTP/1.1 18446744073709551816 a",
		"HTTP/1.2 200 OK", "HTTP/2.0 200 OK", "HTTP/1 200 OK", "http/1.1 200 OK", "HTTP/1.11 200 OK", "HTTP/1.1a 200 OK", "xHTTP/1.1 200 OK", "HTTP/1.\xb1 200 OK",
		"HTTP/1.1 200 a\x01", "HTTP/1.1 200 \x7f", "HTTP/1.1 200 a\x00b", "HTTP/1.1 200 a\r", "HTTP/1.1 200 a\nb", "HTTP/1.1 200 \xc3\x1f", "\r\nHTTP/1.1 200 OK", "\nHTTP/1.1 200 OK", "HTTP/1.1 200 OK\nA: b",
		"GET / HTTP/1.1",
	} {
		wantErrorOfResponse(t, line+"\r\n\r\n", api.ErrSyntax)
		wantErrorOfResponse(t, line+"\r\nHost: a\r\n\r\nrest", api.ErrSyntax)
	}
}

func TestReadOfEachStatus(t *testing.T) {
	for n := range 1000 {
		digits := strconv.Itoa(1000 + n)[1:]
		text := "HTTP/1.0 " + digits + " a b\r\n\r\n"
		if 100 <= n && n <= 599 {
			wantOfResponse(t, text, response(n, "a b", 0, nil), len(text), api.OK)
		} else {
			wantErrorOfResponse(t, text, api.ErrSyntax)
		}
	}
}

// inHeads tells f a field's line as the first, a middle and the last one of
// others.
func inHeads(line string, f func(lines string)) {
	f(line + "\r\n")
	f("a: b\r\n" + line + "\r\nc: d\r\n")
	f("a: b\r\nc:\r\n" + line + "\r\n")
}

func wantErrorOfLines(t *testing.T, lines string, e api.Errno) {
	t.Helper()
	wantError(t, "GET / HTTP/1.1\r\n"+lines+"\r\n", e)
	wantErrorOfResponse(t, "HTTP/1.1 200 OK\r\n"+lines+"\r\n", e)
}

func TestReadOfWrongFields(t *testing.T) {
	for _, line := range []string{
		"a", ":", ": b", " a: b", "\ta: b", "a : b", "a\t: b", " c", "\tc", " ", "\t", "a b: c", "a b", "a,b: c", "é: b", "\xff: b", "a\x00: b", "a\n: b", "a\r: b", "\ra: b", "\na: b", "(a): b", "a/b: c", "a=b", "\"a\": b",
		"a: b\x00", "a: \x00b", "a: b\x7f", "a: b\x1fc", "a: b\nc", "a: b\n", "a: \nb", "a: b\r", "a: b\rc", "a:\r", "a:\n", "a: \v", "a: b\f", "a: \xc3\x01",
	} {
		inHeads(line, func(lines string) { wantErrorOfLines(t, lines, api.ErrSyntax) })
	}
}

// TestReadOfEachByte puts each byte where names, values, targets, methods and
// reasons stand, at their ends and within.
func TestReadOfEachByte(t *testing.T) {
	eachByte(func(c byte, s string) {
		for _, x := range []string{s, "x" + s, s + "x", "x" + s + "x"} {
			for _, text := range []string{
				x + " / HTTP/1.1\r\n\r\n", "GET " + x + " HTTP/1.1\r\n\r\n", "GET / " + x + "HTTP/1.1\r\n\r\n", "GET / HTTP/1." + s + "\r\n\r\n",
				"GET / HTTP/1.1\r\n" + x + ": v\r\n\r\n", "GET / HTTP/1.1\r\na:" + x + "\r\n\r\n", "GET / HTTP/1.1\r\na" + s + "b\r\n\r\n",
				"HTTP/1.0 20" + s + " a\r\n\r\n", "HTTP/1.0 200" + s + "a\r\n\r\n", "HTTP/1.0 200 " + x + "\r\n\r\n", "HTTP/1.0 200 a\r\nb: " + x + "\r\n\r\n", x + "HTTP/1.0 200 a\r\n\r\n",
			} {
				holdRead(t, text)
			}
		}
	})
}

func TestReadOfEachLength(t *testing.T) {
	for _, c := range []struct {
		begin, part, end string
		most             int
	}{
		{"", "M", " / HTTP/1.1\r\n\r\n", 16},
		{"GET ", "/", " HTTP/1.1\r\n\r\n", api.MaxTarget},
		{"GET / HTTP/1.1\r\n", "n", ":\r\n\r\n", api.MaxName},
		{"GET / HTTP/1.1\r\n", "n", ": v\r\nb: c\r\n\r\n", api.MaxName},
		{"GET / HTTP/1.1\r\na: b\r\na:", "v", "\r\n\r\n", api.MaxValue},
		{"GET / HTTP/1.1\r\na: \t", "\xff", " \t\r\nb:c\r\n\r\n", api.MaxValue},
		{"GET / HTTP/1.1\r\na:" + strings.Repeat(" ", 1000), "v", strings.Repeat("\t", 1000) + "\r\n\r\n", api.MaxValue},
		{"GET / HTTP/1.1\r\n", "b:c\r\n", "\r\n", api.MaxFields},
		{"HTTP/1.1 200 ", "r", "\r\n\r\n", api.MaxName},
		{"HTTP/1.1 200 ", "\x80", "\r\na: b\r\n\r\n", api.MaxName},
		{"HTTP/1.1 200 \r\n", "n", ":v\r\n\r\n", api.MaxName},
		{"HTTP/1.1 200 \r\na:", "v", "\r\n\r\n", api.MaxValue},
		{"HTTP/1.1 200 \r\n", "b:\r\n", "\r\n", api.MaxFields},
	} {
		for _, n := range []int{1, 2, c.most - 1, c.most, c.most + 1, c.most + 2, c.most + 200} {
			text := c.begin + strings.Repeat(c.part, n) + c.end
			holdRead(t, text)
			e := api.OK
			if n > c.most {
				e = api.ErrLong
			}
			gotE := errorOf(text)
			if gotE != e {
				t.Errorf("%.40q, %d times %q: %d, not %d", c.begin, n, c.part, gotE, e)
			}
		}
	}
}

// errorOf is the error of reading a text as what it begins like.
func errorOf(text string) api.Errno {
	if strings.HasPrefix(text, "HTTP/") {
		_, _, e := head.ReadResponse([]byte(text))
		return e
	}
	_, _, e := head.ReadRequest([]byte(text))
	return e
}

func TestReadErrorsInTheirOrder(t *testing.T) {
	method, target, name, value := strings.Repeat("M", 17), strings.Repeat("/", api.MaxTarget+1), strings.Repeat("n", api.MaxName+1), strings.Repeat("v", api.MaxValue+1)
	const line = "GET / HTTP/1.1\r\n"
	const fill = "b:c\r\n"
	for _, c := range []struct {
		text string
		want api.Errno
	}{
		// Of the first line ErrSyntax ahead of ErrLong.
		{method + " / HTTP/1.2\r\n\r\n", api.ErrSyntax},
		{method + " /\x7f HTTP/1.1\r\n\r\n", api.ErrSyntax},
		{method + "@ / HTTP/1.1\r\n\r\n", api.ErrSyntax},
		{method + " /\r\n\r\n", api.ErrSyntax},
		{method + "  HTTP/1.1\r\n\r\n", api.ErrSyntax},
		{method + " " + target + " HTTP/1.1\r\n\r\n", api.ErrLong},
		{"G@T " + target + " HTTP/1.1\r\n\r\n", api.ErrSyntax},
		{"GET " + target + "\x01 HTTP/1.1\r\n\r\n", api.ErrSyntax},
		{"GET " + target + " HTTP/3.0\r\n\r\n", api.ErrSyntax},
		{"GET  " + target + " HTTP/1.1\r\n\r\n", api.ErrSyntax},
		{"HTTP/1.1 600 " + name + "\r\n\r\n", api.ErrSyntax},
		{"HTTP/1.1 20 " + name + "\r\n\r\n", api.ErrSyntax},
		{"HTTP/1.2 200 " + name + "\r\n\r\n", api.ErrSyntax},
		{"HTTP/1.1 200 " + name + "\x01\r\n\r\n", api.ErrSyntax},
		{"HTTP/1.1 200 " + name + " \r\n\r\n", api.ErrSyntax},
		{"HTTP/1.1 200  " + name + "\r\n\r\n", api.ErrSyntax},

		// The first line ahead of the fields.
		{method + " / HTTP/1.1\r\na\r\n\r\n", api.ErrLong},
		{"GET " + target + " HTTP/1.1\r\na: \x00\r\n\r\n", api.ErrLong},
		{"GET " + target + " HTTP/1.1\r\n" + strings.Repeat(fill, 70) + "\r\n", api.ErrLong},
		{"GET / HTTP/1.2\r\n" + name + ":\r\n\r\n", api.ErrSyntax},
		{"GET /\r\n" + strings.Repeat(fill, 70) + "\r\n", api.ErrSyntax},
		{"HTTP/1.1 200 " + name + "\r\na\r\n\r\n", api.ErrLong},
		{"HTTP/1.1 099 a\r\n" + name + ":\r\n\r\n", api.ErrSyntax},

		// Of each field's line ErrSyntax ahead of ErrLong.
		{line + name + "\r\n\r\n", api.ErrSyntax},
		{line + name + " : v\r\n\r\n", api.ErrSyntax},
		{line + name + ": \x00\r\n\r\n", api.ErrSyntax},
		{line + "a b: " + value + "\r\n\r\n", api.ErrSyntax},
		{line + "a: " + value + "\x7f\r\n\r\n", api.ErrSyntax},
		{line + "a: \x01" + value + "\r\n\r\n", api.ErrSyntax},
		{line + name + ": " + value + "\r\n\r\n", api.ErrLong},

		// Of fields' lines the first wrong one.
		{line + name + ":\r\na\r\n\r\n", api.ErrLong},
		{line + "a: " + value + "\r\na: \x00\r\n\r\n", api.ErrLong},
		{line + "a\r\n" + name + ":\r\n\r\n", api.ErrSyntax},
		{line + "a: \x00\r\na: " + value + "\r\n\r\n", api.ErrSyntax},

		// The number of fields at the line that is too many.
		{line + strings.Repeat(fill, 64) + "\r\n", api.OK},
		{line + strings.Repeat(fill, 64) + "a\r\n\r\n", api.ErrSyntax},
		{line + strings.Repeat(fill, 64) + "a: \x00\r\n\r\n", api.ErrSyntax},
		{line + strings.Repeat(fill, 64) + name + ":\r\n\r\n", api.ErrLong},
		{line + strings.Repeat(fill, 65) + "a\r\n\r\n", api.ErrLong},
		{line + strings.Repeat(fill, 65) + "a: \x00\r\n\r\n", api.ErrLong},
		{line + strings.Repeat(fill, 63) + "a\r\n" + strings.Repeat(fill, 5) + "\r\n", api.ErrSyntax},

		// The whole's size ahead of all.
		{strings.Repeat("@", api.MaxHead) + "\r\n\r\n", api.ErrLong},
		{"GET\r\na\r\n" + strings.Repeat("a", api.MaxHead) + "\r\n\r\n", api.ErrLong},
		{"GET\r\na\r\nb", api.ErrMore},
		{method + " " + target[:1000], api.ErrMore},
	} {
		if e := errorOf(c.text); e != c.want {
			t.Errorf("%.60q.. (%d): %d, not %d", c.text, len(c.text), e, c.want)
		}
		holdRead(t, c.text)
	}
}

// What a plain reading reads by.
const (
	token     = `([!#$%&'*+\-.^_|\x60\x7e0-9A-Za-z]+)`
	plainText = `((?:[^\x00-\x20\x7f](?:[^\x00-\x08\x0a-\x1f\x7f]*[^\x00-\x20\x7f])?)?)`
)

var (
	requestForm  = regexp.MustCompile(`^` + token + ` ([\x21-\x7e]+) HTTP/1\.([01])$`)
	responseForm = regexp.MustCompile(`^HTTP/1\.([01]) ([1-5][0-9][0-9]) ` + plainText + `$`)
	fieldForm    = regexp.MustCompile(`^` + token + `:[\t ]*` + plainText + `[\t ]*$`)
)

// plainRead reads a head line by line, of which the first one has that form
// and no more bytes in its parts than these: the parts, the fields, how many
// bytes are taken.
func plainRead(text string, form *regexp.Regexp, most ...int) ([]string, field.List, int, api.Errno) {
	end := strings.Index(text, "\r\n\r\n")
	switch {
	case end < 0 && len(text) < api.MaxHead:
		return nil, nil, 0, api.ErrMore
	case end < 0 || end+4 > api.MaxHead:
		return nil, nil, 0, api.ErrLong
	}
	lines := strings.Split(text[:end], "\r\n")
	parts, e := plainLine(lines[0], form, most...)
	if e != api.OK {
		return nil, nil, 0, e
	}
	var l field.List
	for i, line := range lines[1:] {
		f, e := plainLine(line, fieldForm, api.MaxName, api.MaxValue)
		if e == api.OK && i == api.MaxFields {
			e = api.ErrLong
		}
		if e != api.OK {
			return nil, nil, 0, e
		}
		l = append(l, fields(f...)...)
	}
	return parts, l, end + 4, api.OK
}

func plainLine(line string, form *regexp.Regexp, most ...int) ([]string, api.Errno) {
	parts := form.FindStringSubmatch(line)
	if parts == nil {
		return nil, api.ErrSyntax
	}
	parts = parts[1:]
	for i, n := range most {
		if len(parts[i]) > n {
			return nil, api.ErrLong
		}
	}
	return parts, api.OK
}

func number(digits string) int {
	n, _ := strconv.Atoi(digits)
	return n
}

// holdRead holds both readings of a text against the plain ones.
func holdRead(t *testing.T, text string) {
	t.Helper()
	if parts, l, used, e := plainRead(text, requestForm, 16, api.MaxTarget); e == api.OK {
		want(t, text, request(parts[0], parts[1], number(parts[2]), l), used, api.OK)
	} else {
		wantError(t, text, e)
	}
	if parts, l, used, e := plainRead(text, responseForm, 1, 3, api.MaxName); e == api.OK {
		wantOfResponse(t, text, response(number(parts[1]), parts[2], number(parts[0]), l), used, api.OK)
	} else {
		wantErrorOfResponse(t, text, e)
	}
}

// TestReadOfEachChange changes each byte of some heads to each other one,
// leaves each out, and doubles each.
func TestReadOfEachChange(t *testing.T) {
	for _, text := range []string{
		"GET /a?b HTTP/1.1\r\nHost: a b\r\nx:\r\n\r\n",
		"HTTP/1.0 404 Not Found\r\nA: 1\r\nb:\t2 \r\n\r\n",
		"HTTP/1.1 204 \r\n\r\n",
	} {
		for i := range text {
			holdRead(t, text[:i]+text[i+1:])
			holdRead(t, text[:i]+text[i:i+1]+text[i:])
			for c := range 256 {
				holdRead(t, text[:i]+string([]byte{byte(c)})+text[i+1:])
				holdRead(t, text[:i]+string([]byte{byte(c)})+text[i:])
			}
		}
	}
}

// TestReadOfAnyLines lays lines, right ones and wrong ones, one behind the
// other.
func TestReadOfAnyLines(t *testing.T) {
	first := []string{
		"GET / HTTP/1.1", "PUT * HTTP/1.0", "HTTP/1.1 200 OK", "HTTP/1.0 304 ", "GET / HTTP/1.1", "HTTP/1.1 200 OK",
		strings.Repeat("M", 17) + " / HTTP/1.1", "GET " + strings.Repeat("/", 1025) + " HTTP/1.1", "HTTP/1.1 200 " + strings.Repeat("r", 65), "GET / HTTP/1.2", "HTTP/1.1 200", "", "GET /\n HTTP/1.1",
	}
	others := []string{
		"a: b", "c:", "D:\t e f \t", "a:\xff", "Host: x", "a: b", "c: d", "e: f", "g:h", "i: " + strings.Repeat("v", 500),
		strings.Repeat("n", 65) + ": v", "a: " + strings.Repeat("v", 1025), "a : b", "a", "a: \x01", " a: b",
	}
	r := rand.New(rand.NewSource(5))
	for range 60000 {
		text := first[r.Intn(len(first))] + "\r\n"
		kinds := []int{9, 10, len(others)}[r.Intn(3)]
		for range []int{1, 5, 12, 70}[r.Intn(4)] {
			text += others[r.Intn(kinds)] + "\r\n"
		}
		text += []string{"\r\n", "\r\nrest", "\r\n\r\n", ""}[r.Intn(4)]
		holdRead(t, text)
	}
}

func TestReadOfAnyBytes(t *testing.T) {
	const signs = "\r\n\r\n\r\n :\tA1/\x00\x7f\xff"
	r := rand.New(rand.NewSource(55))
	for range 60000 {
		b := make([]byte, r.Intn(40))
		for i := range b {
			b[i] = signs[r.Intn(len(signs))]
		}
		for _, begin := range []string{"", "GET / HTTP/1.1\r\n", "HTTP/1.1 200 OK\r\n", "GET / HTTP/1.0\r\nA:", "HTTP/1.0 200 "} {
			holdRead(t, begin+string(b))
			holdRead(t, begin+string(b)+"\r\n\r\n")
		}
	}
}

// P5.3

// wantBack holds that what a request is shown as is read as it.
func wantBack(t *testing.T, r head.Request) {
	t.Helper()
	s, e := head.ShowRequest(r)
	if e == api.ErrLong {
		return
	}
	if e != api.OK {
		t.Fatalf("ShowRequest(%#v): %d", r, e)
	}
	want(t, s, r, len(s), api.OK)
	want(t, s+"\r\nrest\r\n\r\n", r, len(s), api.OK)
	wantError(t, s[:len(s)-1], api.ErrMore)
}

func wantResponseBack(t *testing.T, r head.Response) {
	t.Helper()
	s, e := head.ShowResponse(r)
	if e == api.ErrLong {
		return
	}
	if e != api.OK {
		t.Fatalf("ShowResponse(%#v): %d", r, e)
	}
	wantOfResponse(t, s, r, len(s), api.OK)
	wantOfResponse(t, s+"\r\nrest\r\n\r\n", r, len(s), api.OK)
	wantErrorOfResponse(t, s[:len(s)-1], api.ErrMore)
}

func anyText(r *rand.Rand, signs string, least int, most int) string {
	b := make([]byte, least+r.Intn(most-least+1))
	for i := range b {
		b[i] = signs[r.Intn(len(signs))]
	}
	return string(b)
}

func TestBackAndForth(t *testing.T) {
	var target, text []byte
	for c := range 256 {
		if 0x21 <= c && c <= 0x7e {
			target = append(target, byte(c))
		}
		if c >= 0x20 && c != 0x7f || c == 0x09 {
			text = append(text, byte(c))
		}
	}
	value := func(r *rand.Rand, most int) string {
		return strings.Trim(anyText(r, string(text), 0, most), " \t")
	}
	r := rand.New(rand.NewSource(555))
	for range 20000 {
		l := make(field.List, []int{0, 1, r.Intn(10), r.Intn(api.MaxFields + 1), api.MaxFields}[r.Intn(5)])
		most := []int{3, 60, api.MaxValue}[r.Intn(3)]
		for i := range l {
			l[i] = field.Field{Name: anyText(r, tokenSigns, 1, min(most, api.MaxName)), Value: value(r, most)}
		}
		wantBack(t, request(anyText(r, tokenSigns, 1, 16), anyText(r, string(target), 1, most), r.Intn(2), l))
		wantResponseBack(t, response(100+r.Intn(500), value(r, api.MaxName), r.Intn(2), l))
	}
}

func TestGreatestPartsBackAndForth(t *testing.T) {
	name, value := strings.Repeat("n", api.MaxName), strings.Repeat("v", api.MaxValue)
	wantBack(t, request(strings.Repeat("M", 16), strings.Repeat("/", api.MaxTarget), 1, fields(name, value, name, value)))
	wantBack(t, request("M", "/", 0, many(api.MaxFields)))
	wantResponseBack(t, response(599, name, 1, fields(name, value, name, value, name, value)))
	wantResponseBack(t, response(100, "", 0, many(api.MaxFields)))
}

// Memory

func TestReadsShareNothing(t *testing.T) {
	const fieldLines = "A: b c\r\nd:\r\ne: f\r\n\r\n"
	fieldsOf := []func(b []byte) field.List{
		func(b []byte) field.List {
			r, _, _ := head.ReadRequest(b)
			return r.List
		},
		func(b []byte) field.List {
			r, _, _ := head.ReadResponse(b)
			return r.List
		},
	}
	for i, text := range []string{"GET / HTTP/1.1\r\n" + fieldLines, "HTTP/1.1 200 OK\r\n" + fieldLines} {
		room := []byte(text + "behind")
		b := room[:len(text)]
		first, second := fieldsOf[i](b), fieldsOf[i](b)
		if string(room) != text+"behind" {
			t.Errorf("an argument was changed: %q", room)
		}
		copy(room, bytes.Repeat([]byte("x"), len(room)))
		whole := first[:cap(first)]
		for at := range whole {
			whole[at] = field.Field{Name: "spoilt", Value: "spoilt"}
		}
		if !slices.Equal(second, fields("A", "b c", "d", "", "e", "f")) {
			t.Errorf("an answer shares memory: %q", second)
		}
	}
}

func TestShowsLeaveArguments(t *testing.T) {
	room := fields("B", "2", "a", "1", "b", "3")
	l := room[:2]
	first, _ := head.ShowRequest(request("GET", "/", 1, l))
	second, _ := head.ShowResponse(response(200, "OK", 1, l))
	l.Right()
	if !slices.Equal(room, fields("B", "2", "a", "1", "b", "3")) {
		t.Errorf("an argument was changed: %q", room)
	}
	if first != "GET / HTTP/1.1\r\nB: 2\r\na: 1\r\n\r\n" || second != "HTTP/1.1 200 OK\r\nB: 2\r\na: 1\r\n\r\n" {
		t.Errorf("%q, %q", first, second)
	}
}
