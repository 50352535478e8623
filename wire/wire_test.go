package wire_test

import (
	"fmt"
	"math"
	"math/rand"
	"slices"
	"strconv"
	"strings"
	"testing"

	"pantry/api"
	"pantry/field"
	"pantry/head"
	"pantry/wire"
)

// most is how many bytes a reader may have.
const most = 8192

// fields are made of names and values, one after the other.
func fields(parts ...string) field.List {
	var l field.List
	for i := 0; i < len(parts); i += 2 {
		l = append(l, field.Field{Name: parts[i], Value: parts[i+1]})
	}
	return l
}

func many(n int) field.List { return slices.Repeat(fields("a", "v"), n) }

func query(method string, target string, minor int, l field.List, said string) wire.Query {
	return wire.Query{Request: head.Request{Method: method, Target: target, Head: head.Head{Minor: minor, List: l}}, Body: []byte(said)}
}

func reply(status int, reason string, minor int, l field.List, said string) wire.Reply {
	return wire.Reply{Response: head.Response{Status: status, Reason: reason, Head: head.Head{Minor: minor, List: l}}, Body: []byte(said)}
}

// ofQuery and ofReply are all that messages have, as texts to be compared.
func ofQuery(q wire.Query) string {
	return fmt.Sprintf("%s %s %d %q %q", q.Method, q.Target, q.Minor, q.List, q.Body)
}

func ofReply(p wire.Reply) string {
	return fmt.Sprintf("%d %s %d %q %q", p.Status, p.Reason, p.Minor, p.List, p.Body)
}

// fed is a reader to which that came.
func fed(t *testing.T, text string) *wire.Reader {
	t.Helper()
	r := wire.NewReader()
	feed(t, r, text, api.OK)
	return r
}

func feed(t *testing.T, r *wire.Reader, text string, want api.Errno) {
	t.Helper()
	left := r.Left()
	if want == api.OK {
		left += len(text)
	}
	if e := r.Feed([]byte(text)); e != want || r.Left() != left {
		t.Fatalf("Feed of %.60q (%d): %d, %d left, not %d, %d", text, len(text), e, r.Left(), want, left)
	}
}

// wantQuery holds the next request, and how many bytes are left behind it.
func wantQuery(t *testing.T, r *wire.Reader, want wire.Query, left int) {
	t.Helper()
	if q, e := r.Query(); e != api.OK || ofQuery(q) != ofQuery(want) || r.Left() != left {
		t.Fatalf("Query: %.300s, %d, %d left, not %.300s, %d left", ofQuery(q), e, r.Left(), ofQuery(want), left)
	}
}

func wantReply(t *testing.T, r *wire.Reader, method string, want wire.Reply, left int) {
	t.Helper()
	if p, e := r.Reply(method); e != api.OK || ofReply(p) != ofReply(want) || r.Left() != left {
		t.Fatalf("Reply to %s: %.300s, %d, %d left, not %.300s, %d left", method, ofReply(p), e, r.Left(), ofReply(want), left)
	}
}

// wantNoQuery holds the error of the next request, beside which nothing is
// told, however often it is asked.
func wantNoQuery(t *testing.T, r *wire.Reader, want api.Errno, left int) {
	t.Helper()
	for range 3 {
		if q, e := r.Query(); e != want || ofQuery(q) != ofQuery(wire.Query{}) || r.Left() != left {
			t.Fatalf("Query: %.300s, %d, %d left, not %d, %d left", ofQuery(q), e, r.Left(), want, left)
		}
	}
}

func wantNoReply(t *testing.T, r *wire.Reader, method string, want api.Errno, left int) {
	t.Helper()
	for range 3 {
		if p, e := r.Reply(method); e != want || ofReply(p) != ofReply(wire.Reply{}) || r.Left() != left {
			t.Fatalf("Reply to %s: %.300s, %d, %d left, not %d, %d left", method, ofReply(p), e, r.Left(), want, left)
		}
	}
}

// wantStuck holds that a reader has an error from now on: it is told whoever
// asks, nothing is taken in, and nothing goes.
func wantStuck(t *testing.T, r *wire.Reader, want api.Errno, left int) {
	t.Helper()
	hold := func() {
		wantNoQuery(t, r, want, left)
		wantNoReply(t, r, "GET", want, left)
		wantNoReply(t, r, "HEAD", want, left)
		for _, text := range []string{"", "x", "\r\n\r\n", "GET / HTTP/1.1\r\n\r\n", strings.Repeat("x", most+1)} {
			feed(t, r, text, api.ErrState)
		}
	}
	hold()
	r.Close()
	hold()
}

const (
	small = "GET / HTTP/1.1\r\n\r\n"
	quiet = "HTTP/1.1 204 \r\n\r\n"
)

var (
	smallQuery = query("GET", "/", 1, nil, "")
	quietReply = reply(204, "", 1, nil, "")
)

// P7.1

func TestNewReader(t *testing.T) {
	a, b := wire.NewReader(), wire.NewReader()
	if a == nil || b == nil || a.Left() != 0 || b.Left() != 0 {
		t.Fatal("a new reader has bytes, or isn't there")
	}
	wantNoQuery(t, a, api.ErrMore, 0)
	wantNoReply(t, a, "GET", api.ErrMore, 0)
	feed(t, a, small, api.OK)
	a.Close()
	feed(t, b, "GE", api.OK)
	wantQuery(t, a, smallQuery, 0)
	wantNoQuery(t, b, api.ErrMore, 2)
}

func TestFeedOfEachSize(t *testing.T) {
	all := strings.Repeat("x", 2*most)
	for size := range most + 300 {
		r := wire.NewReader()
		if size <= most {
			feed(t, r, all[:size], api.OK)
			feed(t, r, all[:most-size+1], api.ErrBig)
			feed(t, r, all[:most-size], api.OK)
			continue
		}
		feed(t, r, all[:size], api.ErrBig)
		feed(t, r, all[:most], api.OK)
	}
	r := fed(t, all[:most])
	feed(t, r, "x", api.ErrBig)
	feed(t, r, all, api.ErrBig)
	feed(t, r, strings.Repeat("x", 1<<20), api.ErrBig)
	feed(t, r, "", api.OK)
	if e := r.Feed(nil); e != api.OK || r.Left() != most {
		t.Errorf("%d, %d left", e, r.Left())
	}
}

func TestFeedByteByByte(t *testing.T) {
	r := wire.NewReader()
	for range most {
		feed(t, r, "x", api.OK)
	}
	for range 3 {
		feed(t, r, "x", api.ErrBig)
	}
}

// TestBytesStandBehindOthers sends each byte there is as a body, in pieces.
func TestBytesStandBehindOthers(t *testing.T) {
	said := ""
	r := fed(t, "PUT / HTTP/1.1\r\nContent-Length: 256\r\n\r\n")
	for c := range 256 {
		wantNoQuery(t, r, api.ErrMore, 39+c)
		s := string([]byte{byte(c)})
		feed(t, r, s, api.OK)
		said += s
	}
	wantQuery(t, r, query("PUT", "/", 1, fields("Content-Length", "256"), said), 0)
}

func TestWhatIsTooBigIsNotTaken(t *testing.T) {
	r := fed(t, small[:7])
	feed(t, r, small[7:]+strings.Repeat("x", most), api.ErrBig)
	wantNoQuery(t, r, api.ErrMore, 7)
	feed(t, r, strings.Repeat("x", most-6), api.ErrBig)
	feed(t, r, small[7:], api.OK)
	wantQuery(t, r, smallQuery, 0)
}

// TestRoomOfWhatWasTaken fills a reader, and fills up the room of each message
// again.
func TestRoomOfWhatWasTaken(t *testing.T) {
	r := fed(t, strings.Repeat(small, most/len(small)))
	rest := most % len(small)
	for range 2000 {
		feed(t, r, strings.Repeat("x", rest+1), api.ErrBig)
		wantQuery(t, r, smallQuery, most-rest-len(small))
		feed(t, r, strings.Repeat("x", rest+1+len(small)), api.ErrBig)
		feed(t, r, small, api.OK)
	}
	r = fed(t, "HTTP/1.1 100 \r\n\r\n"+strings.Repeat("x", most-17))
	feed(t, r, "x", api.ErrBig)
	wantNoReply(t, r, "GET", api.ErrLong, most-17)

	r = fed(t, "HTTP/1.1 100 \r\n\r\n"+strings.Repeat("x", 17))
	wantNoReply(t, r, "GET", api.ErrMore, 17)
	feed(t, r, strings.Repeat("x", most-16), api.ErrBig)
	feed(t, r, strings.Repeat("x", most-17), api.OK)
}

func TestClose(t *testing.T) {
	for _, text := range []string{"", "G", small, small + small, quiet, "bad\r\n\r\n", strings.Repeat("x", most)} {
		r := fed(t, text)
		for range 3 {
			r.Close()
			if r.Left() != len(text) {
				t.Fatalf("%d left of %.60q", r.Left(), text)
			}
			for _, more := range []string{"", "x", small, strings.Repeat("x", most), strings.Repeat("x", most+1)} {
				feed(t, r, more, api.ErrState)
			}
			if e := r.Feed(nil); e != api.ErrState {
				t.Errorf("%d", e)
			}
		}
	}
}

func TestCloseLeavesWhatCame(t *testing.T) {
	r := fed(t, small+small)
	wantQuery(t, r, smallQuery, len(small))
	r.Close()
	wantQuery(t, r, smallQuery, 0)
	wantNoQuery(t, r, api.ErrNone, 0)
	feed(t, r, "", api.ErrState)

	r = fed(t, quiet)
	r.Close()
	wantReply(t, r, "GET", quietReply, 0)
	wantNoReply(t, r, "GET", api.ErrNone, 0)
}

// P7.2

// message is a text, and what is told of it: a message, or an error. It is
// told when so many bytes of it came.
type message struct {
	text string
	told string
	e    api.Errno
	at   int
}

func whole(text string, told string) message {
	return message{text, told, api.OK, len(text)}
}

func wrong(text string, e api.Errno) message {
	return message{text, "", e, len(text)}
}

// letters are bytes of every kind, so many.
func letters(n int) string {
	b := make([]byte, n)
	for i := range b {
		b[i] = byte(i*7 + i/256)
	}
	return string(b)
}

func rightQueries() []message {
	big, full := letters(api.MaxBody), strings.Repeat("v", api.MaxValue)
	long := "GET /" + strings.Repeat("t", api.MaxTarget-1) + " HTTP/1.1\r\na: " + full + "\r\nb: " + full + "\r\nc: " + strings.Repeat("w", 992) + "\r\n\r\n"
	counted, chunked := fields("Content-Length", "3"), fields("Transfer-Encoding", "Chunked")
	list := []message{
		whole(small, ofQuery(smallQuery)),
		whole("get * HTTP/1.0\r\nHost:a\r\nhost: \tb\r\n\r\n", ofQuery(query("get", "*", 0, fields("Host", "a", "host", "b"), ""))),
		whole("POST /a HTTP/1.1\r\nContent-Length: 3\r\n\r\nabc", ofQuery(query("POST", "/a", 1, counted, "abc"))),
		whole("GET /a HTTP/1.0\r\nContent-Length: 3\r\n\r\n\r\n\r", ofQuery(query("GET", "/a", 0, counted, "\r\n\r"))),
		whole("HEAD / HTTP/1.1\r\nContent-Length: 3\r\n\r\nabc", ofQuery(query("HEAD", "/", 1, counted, "abc"))),
		whole("POST / HTTP/1.1\r\nA: b\r\ncontent-length: 0,00\r\n\r\n", ofQuery(query("POST", "/", 1, fields("A", "b", "content-length", "0,00"), ""))),
		whole("POST / HTTP/1.1\r\nContent-Length: 18\r\n\r\n"+small, ofQuery(query("POST", "/", 1, fields("Content-Length", "18"), small))),
		whole("P / HTTP/1.1\r\nContent-Length: 2048\r\n\r\n"+big, ofQuery(query("P", "/", 1, fields("Content-Length", "2048"), big))),
		whole("P / HTTP/1.1\r\nTransfer-Encoding: Chunked\r\n\r\n0\r\n\r\n", ofQuery(query("P", "/", 1, chunked, ""))),
		whole("P / HTTP/1.1\r\nTransfer-Encoding: Chunked\r\n\r\n2\r\nab\r\n12\r\n"+small+"\r\n1\r\n0\r\n00\r\n\r\n", ofQuery(query("P", "/", 1, chunked, "ab"+small+"0"))),
		whole("P / HTTP/1.1\r\nTransfer-Encoding: Chunked\r\n\r\n7fe\r\n"+big[:2046]+"\r\n2\r\n"+big[2046:]+"\r\n0\r\n\r\n", ofQuery(query("P", "/", 1, chunked, big))),
		whole(long, ofQuery(query("GET", "/"+strings.Repeat("t", api.MaxTarget-1), 1, fields("a", full, "b", full, "c", strings.Repeat("w", 992)), ""))),
		whole("Q / HTTP/1.0\r\n"+strings.Repeat("a:v\r\n", api.MaxFields)+"\r\n", ofQuery(query("Q", "/", 0, many(api.MaxFields), ""))),
	}
	return list
}

func wrongQueries() []message {
	const line = "POST / HTTP/1.1\r\n"
	return []message{
		// Heads.
		wrong("bad\r\n\r\n", api.ErrSyntax),
		wrong("\r\n\r\n", api.ErrSyntax),
		wrong("\r\n"+small, api.ErrSyntax),
		wrong("GET  / HTTP/1.1\r\n\r\n", api.ErrSyntax),
		wrong("GET / HTTP/1.1\r\nHost\r\n\r\n", api.ErrSyntax),
		wrong("GET / HTTP/1.1\r\nHost : a\r\n\r\n", api.ErrSyntax),
		wrong("GET / HTTP/2.0\r\n\r\n", api.ErrSyntax),
		wrong("HTTP/1.1 200 OK\r\n\r\n", api.ErrSyntax),
		wrong(strings.Repeat("M", 17)+" / HTTP/1.1\r\n\r\n", api.ErrLong),
		wrong("GET "+strings.Repeat("/", api.MaxTarget+1)+" HTTP/1.1\r\n\r\n", api.ErrLong),
		wrong(line+strings.Repeat("a: v\r\n", api.MaxFields+1)+"\r\n", api.ErrLong),
		wrong(strings.Repeat("x", api.MaxHead), api.ErrLong),
		wrong(line+"A:"+strings.Repeat(" ", api.MaxHead-19), api.ErrLong),

		// Frames.
		wrong(line+"Content-Length: 1\r\nTransfer-Encoding: chunked\r\n\r\n", api.ErrSmuggle),
		wrong("POST / HTTP/1.0\r\nTransfer-Encoding: chunked\r\n\r\n", api.ErrSmuggle),
		wrong(line+"Transfer-Encoding: gzip, chunked\r\n\r\n", api.ErrSmuggle),
		wrong(line+"Content-Length: 1\r\nContent-Length: 2\r\n\r\n", api.ErrSmuggle),
		wrong(line+"Content-Length: \r\n\r\n", api.ErrSmuggle),
		wrong(line+"Content-Length: +1\r\n\r\n", api.ErrSmuggle),
		wrong(line+"Content-Length: 2049\r\n\r\n", api.ErrBig),

		// Bodies.
		wrong(line+"Transfer-Encoding: chunked\r\n\r\nx", api.ErrSyntax),
		wrong(line+"Transfer-Encoding: chunked\r\n\r\n1\r\nab", api.ErrSyntax),
		wrong(line+"Transfer-Encoding: chunked\r\n\r\n0\r\nA", api.ErrSyntax),
		wrong(line+"Transfer-Encoding: chunked\r\n\r\n801\r\n", api.ErrBig),
		wrong(line+"Transfer-Encoding: chunked\r\n\r\n7ff\r\n"+strings.Repeat("x", 2047)+"\r\n2\r\n", api.ErrBig),
	}
}

func rightReplies() []message {
	big := letters(api.MaxBody)
	counted, chunked := fields("Content-Length", "3"), fields("transfer-encoding", "chunked")
	return []message{
		whole(quiet, ofReply(quietReply)),
		whole("HTTP/1.0 304 Not Modified\r\nContent-Length: 9\r\n\r\n", ofReply(reply(304, "Not Modified", 0, fields("Content-Length", "9"), ""))),
		whole("HTTP/1.1 204 a  b\r\nTransfer-Encoding: x\r\n\r\n", ofReply(reply(204, "a  b", 1, fields("Transfer-Encoding", "x"), ""))),
		whole("HTTP/1.1 200 OK\r\nContent-Length: 3\r\n\r\nabc", ofReply(reply(200, "OK", 1, counted, "abc"))),
		whole("HTTP/1.0 599 \r\nContent-Length: 3\r\n\r\n\r\n\r", ofReply(reply(599, "", 0, counted, "\r\n\r"))),
		whole("HTTP/1.1 404 No\r\nContent-Length: 0\r\n\r\n", ofReply(reply(404, "No", 1, fields("Content-Length", "0"), ""))),
		whole("HTTP/1.1 200 OK\r\nContent-Length: 17\r\n\r\n"+quiet, ofReply(reply(200, "OK", 1, fields("Content-Length", "17"), quiet))),
		whole("HTTP/1.1 200 OK\r\nContent-Length: 2048\r\n\r\n"+big, ofReply(reply(200, "OK", 1, fields("Content-Length", "2048"), big))),
		whole("HTTP/1.1 200 OK\r\ntransfer-encoding: chunked\r\n\r\n3\r\na\r\n\r\n11\r\n"+quiet+"\r\n0\r\n\r\n", ofReply(reply(200, "OK", 1, chunked, "a\r\n"+quiet))),
	}
}

func wrongReplies() []message {
	const line = "HTTP/1.1 200 OK\r\n"
	return []message{
		wrong("bad\r\n\r\n", api.ErrSyntax),
		wrong("\r\n\r\n", api.ErrSyntax),
		wrong(small, api.ErrSyntax),
		wrong("HTTP/1.1 200\r\n\r\n", api.ErrSyntax),
		wrong("HTTP/1.1 099 a\r\n\r\n", api.ErrSyntax),
		wrong("HTTP/1.1 600 a\r\n\r\n", api.ErrSyntax),
		wrong("HTTP/1.1 100 a\r\nb\r\n\r\n", api.ErrSyntax),
		wrong("HTTP/1.1 200 "+strings.Repeat("r", api.MaxName+1)+"\r\n\r\n", api.ErrLong),
		wrong("HTTP/1.1 100 "+strings.Repeat("r", api.MaxName+1)+"\r\n\r\n", api.ErrLong),
		wrong(strings.Repeat("x", api.MaxHead), api.ErrLong),
		wrong(line+"Content-Length: 1\r\nTransfer-Encoding: chunked\r\n\r\n", api.ErrSmuggle),
		wrong("HTTP/1.0 200 OK\r\nTransfer-Encoding: chunked\r\n\r\n", api.ErrSmuggle),
		wrong(line+"Content-Length: 1, 2\r\n\r\n", api.ErrSmuggle),
		wrong(line+"Content-Length: 2049\r\n\r\n", api.ErrBig),
		wrong(line+"Transfer-Encoding: chunked\r\n\r\n1\r\nab", api.ErrSyntax),
		wrong(line+"Transfer-Encoding: chunked\r\n\r\nffffffff\r\n", api.ErrBig),
		wrong(line+"\r\n"+strings.Repeat("x", api.MaxBody+1), api.ErrBig),
	}
}

// interim are responses that are passed over.
func interim() []string {
	return []string{
		"HTTP/1.1 100 Continue\r\n\r\n",
		"HTTP/1.0 199 \r\nA: b\r\n\r\n",
		"HTTP/1.1 103 Early\r\nContent-Length: 5\r\n\r\n",
		"HTTP/1.1 101 a\r\nTransfer-Encoding: chunked\r\nContent-Length: x\r\n\r\n",
		"HTTP/1.0 150 b\r\nContent-Length: 9999\r\nTransfer-Encoding: gzip\r\n\r\n",
	}
}

// asker asks a reader for the next message, as a text.
type asker func(r *wire.Reader) (string, api.Errno)

func askQuery(r *wire.Reader) (string, api.Errno) {
	q, e := r.Query()
	return ofQuery(q), e
}

func askReply(r *wire.Reader) (string, api.Errno) {
	p, e := r.Reply("GET")
	return ofReply(p), e
}

// kind is a kind of messages, and how they are asked for.
type kind struct {
	right, wrong []message
	nothing      string
	ask          asker
}

func kinds() []kind {
	return []kind{
		{rightQueries(), wrongQueries(), ofQuery(wire.Query{}), askQuery},
		{rightReplies(), wrongReplies(), ofReply(wire.Reply{}), askReply},
	}
}

func wantTold(t *testing.T, k kind, r *wire.Reader, told string, e api.Errno, left int) {
	t.Helper()
	if e != api.OK {
		told = k.nothing
	}
	if gotTold, gotE := k.ask(r); gotTold != told || gotE != e || r.Left() != left {
		t.Fatalf("%.300s, %d, %d left, not %.300s, %d, %d left", gotTold, gotE, r.Left(), told, e, left)
	}
}

func TestRightMessages(t *testing.T) {
	for _, k := range kinds() {
		for _, m := range k.right {
			for _, rest := range []string{"", "x", "\r\n\r\n", small, quiet, m.text[:min(len(m.text), 2000)], "bad\r\n\r\n", strings.Repeat("x", most-len(m.text))} {
				r := fed(t, m.text+rest)
				wantTold(t, k, r, m.told, api.OK, len(rest))
				r = fed(t, m.text+rest)
				r.Close()
				wantTold(t, k, r, m.told, api.OK, len(rest))
			}
		}
	}
}

// TestCutMessages cuts messages everywhere: nothing is told till the rest
// came, and ErrSyntax, if it never comes.
func TestCutMessages(t *testing.T) {
	for _, k := range kinds() {
		for _, m := range k.right {
			for size := range m.text {
				if size > 400 && size < len(m.text)-20 && size%61 != 0 {
					continue
				}
				r := fed(t, m.text[:size])
				wantTold(t, k, r, "", api.ErrMore, size)
				wantTold(t, k, r, "", api.ErrMore, size)
				feed(t, r, m.text[size:]+"x", api.OK)
				wantTold(t, k, r, m.told, api.OK, 1)

				r = fed(t, m.text[:size])
				wantTold(t, k, r, "", api.ErrMore, size)
				r.Close()
				if size == 0 {
					wantTold(t, k, r, "", api.ErrNone, 0)
				} else {
					wantTold(t, k, r, "", api.ErrSyntax, size)
					wantStuck(t, r, api.ErrSyntax, size)
				}
			}
		}
	}
}

func TestWrongMessages(t *testing.T) {
	for _, k := range kinds() {
		for _, m := range k.wrong {
			for _, rest := range []string{"", "x", "\r\n\r\n", small, quiet} {
				r := fed(t, m.text+rest)
				wantTold(t, k, r, "", m.e, len(m.text+rest))
				wantStuck(t, r, m.e, len(m.text+rest))
				r = fed(t, m.text+rest)
				r.Close()
				wantTold(t, k, r, "", m.e, len(m.text+rest))
				wantStuck(t, r, m.e, len(m.text+rest))
			}
			r := wire.NewReader()
			for i := range len(m.text) - 1 {
				feed(t, r, m.text[i:i+1], api.OK)
				wantTold(t, k, r, "", api.ErrMore, i+1)
			}
			feed(t, r, m.text[len(m.text)-1:], api.OK)
			wantTold(t, k, r, "", m.e, len(m.text))
			wantStuck(t, r, m.e, len(m.text))
		}
	}
}

// TestErrorsStandTillAsked holds that nobody has an error that wasn't told
// yet: what came may still be asked for otherwise.
func TestErrorsStandTillAsked(t *testing.T) {
	r := fed(t, "bad\r\n")
	feed(t, r, "\r\n", api.OK)
	feed(t, r, "x", api.OK)
	wantNoQuery(t, r, api.ErrSyntax, 8)
	feed(t, r, "x", api.ErrState)

	r = fed(t, small)
	wantNoReply(t, r, "GET", api.ErrSyntax, len(small))
	wantStuck(t, r, api.ErrSyntax, len(small))

	r = fed(t, quiet)
	wantNoQuery(t, r, api.ErrSyntax, len(quiet))
	wantStuck(t, r, api.ErrSyntax, len(quiet))
}

func TestNothingOfAClosedReader(t *testing.T) {
	r := wire.NewReader()
	r.Close()
	wantNoQuery(t, r, api.ErrNone, 0)
	wantNoReply(t, r, "GET", api.ErrNone, 0)
	wantNoReply(t, r, "HEAD", api.ErrNone, 0)
	wantNoQuery(t, r, api.ErrNone, 0)
	feed(t, r, small, api.ErrState)

	for _, text := range []string{"x", "\r", "\r\n", "GET / HTTP/1.1\r\n", "HTTP/1.1 200 OK\r\n\r", strings.Repeat("x", api.MaxHead-1)} {
		r := fed(t, text)
		r.Close()
		wantNoQuery(t, r, api.ErrSyntax, len(text))
		wantStuck(t, r, api.ErrSyntax, len(text))
		r = fed(t, text)
		r.Close()
		wantNoReply(t, r, "GET", api.ErrSyntax, len(text))
		wantStuck(t, r, api.ErrSyntax, len(text))
	}
	r = fed(t, strings.Repeat("x", api.MaxHead))
	r.Close()
	wantNoQuery(t, r, api.ErrLong, api.MaxHead)
}

// TestMessagesInPieces sends messages one behind the other, in any pieces, and
// asks for them at any time; the last one is a wrong one, or cut, or neither.
func TestMessagesInPieces(t *testing.T) {
	r := rand.New(rand.NewSource(7))
	for _, k := range kinds() {
		for range 1500 {
			var list []message
			for range r.Intn(8) {
				list = append(list, k.right[r.Intn(len(k.right))])
			}
			switch r.Intn(3) {
			case 0:
				list = append(list, k.wrong[r.Intn(len(k.wrong))])
			case 1:
				m := k.right[r.Intn(len(k.right))]
				size := 1 + r.Intn(len(m.text)-1)
				list = append(list, message{m.text[:size], "", api.ErrSyntax, size + 1})
			}
			piecemeal(t, r, k, list)
		}
	}
}

// piecemeal sends messages in pieces, and closes behind them.
func piecemeal(t *testing.T, rnd *rand.Rand, k kind, list []message) {
	t.Helper()
	text := ""
	for _, m := range list {
		text += m.text
	}
	c := came{Reader: wire.NewReader(), kind: k, list: list}
	piece := 1 + []int{2, 30, 500, 6000}[rnd.Intn(4)]
	for text != "" {
		size := min(rnd.Intn(piece), len(text), most-c.left)
		feed(t, c.Reader, text[:size], api.OK)
		text, c.left = text[size:], c.left+size
		for (c.left > most-1000 || rnd.Intn(3) > 0) && c.ask(t, false) {
		}
		if c.stuck {
			return
		}
	}
	c.Close()
	for c.ask(t, true) {
	}
}

// came is a reader to which messages come: how many bytes it has, and which
// messages weren't told yet.
type came struct {
	*wire.Reader
	kind
	list  []message
	left  int
	stuck bool
}

// ask holds the next message, and tells whether there was one.
func (c *came) ask(t *testing.T, closed bool) bool {
	t.Helper()
	switch {
	case len(c.list) == 0 && closed:
		wantTold(t, c.kind, c.Reader, "", api.ErrNone, 0)
	case len(c.list) == 0 || !closed && c.left < c.list[0].at:
		wantTold(t, c.kind, c.Reader, "", api.ErrMore, c.left)
	case c.list[0].e != api.OK:
		wantTold(t, c.kind, c.Reader, "", c.list[0].e, c.left)
		wantStuck(t, c.Reader, c.list[0].e, c.left)
		c.stuck = true
	default:
		m := c.list[0]
		c.list, c.left = c.list[1:], c.left-len(m.text)
		wantTold(t, c.kind, c.Reader, m.told, m.e, c.left)
		return true
	}
	return false
}

// TestRepliesByMethod asks for one and the same bytes by methods of both
// kinds.
func TestRepliesByMethod(t *testing.T) {
	const text = "HTTP/1.1 200 OK\r\nContent-Length: 17\r\n\r\n"
	l := fields("Content-Length", "17")
	for _, method := range []string{"GET", "POST", "head", "Head", "HEAD ", "HEA", "HEADS", "", "\x00"} {
		wantReply(t, fed(t, text+quiet), method, reply(200, "OK", 1, l, quiet), 0)
		wantNoReply(t, fed(t, text+quiet[1:]), method, api.ErrMore, len(text)+16)
	}
	r := fed(t, text+quiet)
	wantReply(t, r, "HEAD", reply(200, "OK", 1, l, ""), 17)
	wantReply(t, r, "HEAD", quietReply, 0)

	r = fed(t, text)
	wantNoReply(t, r, "GET", api.ErrMore, len(text))
	wantReply(t, r, "HEAD", reply(200, "OK", 1, l, ""), 0)

	for _, value := range []string{"9999", "x", "", "1, 2"} {
		text := "HTTP/1.0 200 OK\r\nContent-Length: " + value + "\r\nTransfer-Encoding: gzip\r\n\r\n"
		wantReply(t, fed(t, text+"x"), "HEAD", reply(200, "OK", 0, fields("Content-Length", value, "Transfer-Encoding", "gzip"), ""), 1)
		wantNoReply(t, fed(t, text), "GET", api.ErrSmuggle, len(text))
	}
	wantReply(t, fed(t, "HTTP/1.1 500 \r\n\r\nrest"), "HEAD", reply(500, "", 1, nil, ""), 4)
}

func TestRepliesToTheEnd(t *testing.T) {
	const text = "HTTP/1.1 200 OK\r\nA: b\r\n\r\n"
	all := letters(api.MaxBody + 2)
	for size := range api.MaxBody + 2 {
		r := fed(t, text+all[:size])
		if size > api.MaxBody {
			wantNoReply(t, r, "GET", api.ErrBig, len(text)+size)
			wantStuck(t, r, api.ErrBig, len(text)+size)
			continue
		}
		if size%40 == 0 {
			wantNoReply(t, r, "GET", api.ErrMore, len(text)+size)
		}
		r.Close()
		wantReply(t, r, "GET", reply(200, "OK", 1, fields("A", "b"), all[:size]), 0)
		wantNoReply(t, r, "GET", api.ErrNone, 0)
	}
	r := fed(t, text+all)
	r.Close()
	wantNoReply(t, r, "GET", api.ErrBig, len(text+all))

	r = fed(t, text)
	for i := range 300 {
		wantNoReply(t, r, "POST", api.ErrMore, len(text)+i)
		feed(t, r, all[i:i+1], api.OK)
	}
	r.Close()
	wantReply(t, r, "POST", reply(200, "OK", 1, fields("A", "b"), all[:300]), 0)
}

// TestRepliesOfEachStatus holds which ones are passed over.
func TestRepliesOfEachStatus(t *testing.T) {
	for status := 100; status < 600; status++ {
		text := "HTTP/1.1 " + strconv.Itoa(status) + " a\r\nContent-Length: 17\r\n\r\n"
		for _, method := range []string{"GET", "HEAD"} {
			r := fed(t, text+quiet+"rest")
			p := reply(status, "a", 1, fields("Content-Length", "17"), "")
			switch {
			case status < 200:
				wantReply(t, r, method, quietReply, 4)
			case status == 204 || status == 304 || method == "HEAD":
				wantReply(t, r, method, p, len(quiet)+4)
			default:
				p.Body = []byte(quiet)
				wantReply(t, r, method, p, 4)
			}
		}
	}
}

func TestInterimReplies(t *testing.T) {
	for _, first := range interim() {
		for _, second := range append(interim(), "") {
			both := first + second
			for _, method := range []string{"GET", "HEAD", "POST", ""} {
				wantReply(t, fed(t, both+quiet+"x"), method, quietReply, 1)
				wantNoReply(t, fed(t, both), method, api.ErrMore, 0)
				wantNoReply(t, fed(t, both+"HTTP"), method, api.ErrMore, 4)
				r := fed(t, both+"bad\r\n\r\nx")
				wantNoReply(t, r, method, api.ErrSyntax, 8)
				wantStuck(t, r, api.ErrSyntax, 8)

				// Nothing behind them, and less than a reply.
				r = fed(t, both)
				r.Close()
				wantNoReply(t, r, method, api.ErrNone, 0)
				wantNoReply(t, r, method, api.ErrNone, 0)
				r = fed(t, both+"HTTP")
				r.Close()
				wantNoReply(t, r, method, api.ErrSyntax, 4)
				wantStuck(t, r, api.ErrSyntax, 4)
				r = fed(t, both+quiet)
				r.Close()
				wantReply(t, r, method, quietReply, 0)
			}
			r := fed(t, both+"HTTP/1.1 200 OK\r\n\r\nbody")
			wantNoReply(t, r, "GET", api.ErrMore, 23)
			feed(t, r, " and more", api.OK)
			r.Close()
			wantReply(t, r, "GET", reply(200, "OK", 1, nil, "body and more"), 0)
		}
	}
	all := strings.Repeat("HTTP/1.1 100 \r\n\r\n", most/17)
	wantNoReply(t, fed(t, all), "GET", api.ErrMore, 0)
	wantReply(t, fed(t, all[17:]+quiet), "GET", quietReply, 0)
}

// TestInterimRepliesInPieces holds that each one goes when it is whole.
func TestInterimRepliesInPieces(t *testing.T) {
	r := wire.NewReader()
	for range 3 {
		for _, text := range interim() {
			for i := range text {
				wantNoReply(t, r, "GET", api.ErrMore, i)
				feed(t, r, text[i:i+1], api.OK)
			}
			wantNoReply(t, r, "GET", api.ErrMore, 0)
		}
	}
	feed(t, r, quiet, api.OK)
	wantReply(t, r, "GET", quietReply, 0)
}

// TestQueriesOfInterimReplies holds that only a Reply takes them.
func TestQueriesOfInterimReplies(t *testing.T) {
	r := fed(t, interim()[0])
	wantNoQuery(t, r, api.ErrSyntax, len(interim()[0]))
	wantStuck(t, r, api.ErrSyntax, len(interim()[0]))
}

// P7.3

func wantPutQuery(t *testing.T, q wire.Query, want string, e api.Errno) {
	t.Helper()
	if b, gotE := wire.PutQuery(q); gotE != e || string(b) != want {
		t.Fatalf("PutQuery of %.300s: %.300q, %d, not %.300q, %d", ofQuery(q), b, gotE, want, e)
	}
}

func wantPutReply(t *testing.T, method string, p wire.Reply, want string, e api.Errno) {
	t.Helper()
	if b, gotE := wire.PutReply(method, p); gotE != e || string(b) != want {
		t.Fatalf("PutReply of %q, %.300s: %.300q, %d, not %.300q, %d", method, ofReply(p), b, gotE, want, e)
	}
}

// framings are fields that frame, and others, and what is left of them.
var framings = []struct {
	l    field.List
	left string
}{
	{nil, ""},
	{fields("A", "b"), "A: b\r\n"},
	{fields("Content-Length", "9"), ""},
	{fields("content-length", "9", "A", "b", "CONTENT-LENGTH", "8", "Content-Length", "x"), "A: b\r\n"},
	{fields("Transfer-Encoding", "chunked", "b", "2", "a", "1", "transfer-encoding", "gzip"), "b: 2\r\na: 1\r\n"},
	{fields("B", "2", "tRANSFER-eNCODING", "", "cONTENT-lENGTH", "", "b", "3"), "B: 2\r\nb: 3\r\n"},
	{fields("Content-Lengths", "1", "Transfer-Encodin", "2", "Content-Encoding", "3", "TE", "4"), "Content-Lengths: 1\r\nTransfer-Encodin: 2\r\nContent-Encoding: 3\r\nTE: 4\r\n"},
	{fields("Connection", "close", "Via", "x", "Host", "a"), "Connection: close\r\nVia: x\r\nHost: a\r\n"},

	// What is left out may be wrong, and so much that it would be too much.
	{fields("Content-Length", " 1\r\n\r\n", "A", "b", "Transfer-Encoding", strings.Repeat("x", 5000)), "A: b\r\n"},
	{append(slices.Repeat(fields("Content-Length", "1", "Transfer-Encoding", "x"), 100), fields("A", "b")...), "A: b\r\n"},
}

func TestPutQuery(t *testing.T) {
	for _, c := range framings {
		for _, minor := range []int{0, 1} {
			line := "POST /a?b HTTP/1." + strconv.Itoa(minor) + "\r\n"
			wantPutQuery(t, query("POST", "/a?b", minor, c.l, ""), line+c.left+"\r\n", api.OK)
			wantPutQuery(t, query("POST", "/a?b", minor, c.l, "x"), line+c.left+"Content-Length: 1\r\n\r\nx", api.OK)
			wantPutQuery(t, query("POST", "/a?b", minor, c.l, "\r\n\r\n\x00\xff0123456"), line+c.left+"Content-Length: 13\r\n\r\n\r\n\r\n\x00\xff0123456", api.OK)
		}
	}
	q := query("HEAD", "*", 1, nil, "abc")
	wantPutQuery(t, q, "HEAD * HTTP/1.1\r\nContent-Length: 3\r\n\r\nabc", api.OK)
	q.Body = nil
	wantPutQuery(t, q, "HEAD * HTTP/1.1\r\n\r\n", api.OK)
}

func TestPutOfEachSize(t *testing.T) {
	all := letters(api.MaxBody + 300)
	for size := range len(all) {
		text := "Content-Length: " + strconv.Itoa(size) + "\r\n\r\n"
		q, p := query("P", "/", 1, nil, all[:size]), reply(200, "OK", 1, nil, all[:size])
		switch {
		case size > api.MaxBody:
			wantPutQuery(t, q, "", api.ErrBig)
			wantPutReply(t, "GET", p, "", api.ErrBig)
			wantPutReply(t, "HEAD", p, "", api.ErrBig)
			continue
		case size == 0:
			wantPutQuery(t, q, "P / HTTP/1.1\r\n\r\n", api.OK)
		default:
			wantPutQuery(t, q, "P / HTTP/1.1\r\n"+text+all[:size], api.OK)
		}
		wantPutReply(t, "GET", p, "HTTP/1.1 200 OK\r\n"+text+all[:size], api.OK)
		wantPutReply(t, "HEAD", p, "HTTP/1.1 200 OK\r\n"+text, api.OK)
	}
	wantPutQuery(t, query("P", "/", 1, nil, strings.Repeat("x", 1<<20)), "", api.ErrBig)
	wantPutReply(t, "GET", reply(200, "OK", 1, nil, strings.Repeat("x", 1<<20)), "", api.ErrBig)
}

// filled is fields whose lines have just so many bytes.
func filled(size int) field.List {
	var l field.List
	for ; size > 1005+5; size -= 1005 {
		l = append(l, field.Field{Name: "a", Value: strings.Repeat("b", 1000)})
	}
	return append(l, field.Field{Name: "c", Value: strings.Repeat("d", size-5)})
}

// TestPutOfEachHead holds that a head's size is that of the one that is
// written.
func TestPutOfEachHead(t *testing.T) {
	const requestLine, responseLine, length = len("P / HTTP/1.1\r\n"), len("HTTP/1.1 200 OK\r\n"), len("Content-Length: 3\r\n")
	hold := func(size int, b []byte, e api.Errno) {
		t.Helper()
		if size <= api.MaxHead && (e != api.OK || len(b) < size) || size > api.MaxHead && (e != api.ErrLong || len(b) > 0) {
			t.Fatalf("a head of %d bytes: %d bytes, %d", size, len(b), e)
		}
	}
	for size := 3900; size < 4200; size++ {
		l := append(fields("Content-Length", strings.Repeat("9", 500)), filled(size)...)
		b, e := wire.PutQuery(query("P", "/", 1, l, ""))
		hold(requestLine+size+2, b, e)
		b, e = wire.PutQuery(query("P", "/", 1, l, "abc"))
		hold(requestLine+size+length+2, b, e)
		b, e = wire.PutReply("GET", reply(200, "OK", 1, l, "abc"))
		hold(responseLine+size+length+2, b, e)
		b, e = wire.PutReply("HEAD", reply(200, "OK", 1, l, "abc"))
		hold(responseLine+size+length+2, b, e)
		b, e = wire.PutReply("GET", reply(200, "OK", 1, l, ""))
		hold(responseLine+size+length+2, b, e)
		b, e = wire.PutReply("GET", reply(204, "OK", 1, l, ""))
		hold(responseLine+size+2, b, e)
	}
}

func TestPutOfManyFields(t *testing.T) {
	lines := strings.Repeat("a: v\r\n", 63)
	wantPutQuery(t, query("P", "/", 1, many(63), "x"), "P / HTTP/1.1\r\n"+lines+"Content-Length: 1\r\n\r\nx", api.OK)
	wantPutQuery(t, query("P", "/", 1, many(64), ""), "P / HTTP/1.1\r\n"+lines+"a: v\r\n\r\n", api.OK)
	wantPutQuery(t, query("P", "/", 1, many(64), "x"), "", api.ErrForm)
	wantPutQuery(t, query("P", "/", 1, many(65), ""), "", api.ErrForm)
	wantPutQuery(t, query("P", "/", 1, append(fields("Content-Length", "7"), many(63)...), "x"), "P / HTTP/1.1\r\n"+lines+"Content-Length: 1\r\n\r\nx", api.OK)

	wantPutReply(t, "GET", reply(200, "", 1, many(63), ""), "HTTP/1.1 200 \r\n"+lines+"Content-Length: 0\r\n\r\n", api.OK)
	wantPutReply(t, "GET", reply(200, "", 1, many(64), ""), "", api.ErrForm)
	wantPutReply(t, "HEAD", reply(200, "", 1, many(64), ""), "", api.ErrForm)
	wantPutReply(t, "GET", reply(204, "", 1, many(64), ""), "HTTP/1.1 204 \r\n"+lines+"a: v\r\n\r\n", api.OK)
	wantPutReply(t, "GET", reply(304, "", 1, many(65), ""), "", api.ErrForm)
}

func TestPutOfWrongQueries(t *testing.T) {
	big, long := strings.Repeat("x", api.MaxBody+1), filled(5000)
	for _, c := range []struct {
		q    wire.Query
		want api.Errno
	}{
		{wire.Query{}, api.ErrForm},
		{query("", "/", 1, nil, ""), api.ErrForm},
		{query("G T", "/", 1, nil, "x"), api.ErrForm},
		{query(strings.Repeat("G", 17), "/", 1, nil, ""), api.ErrForm},
		{query("GET", "", 1, nil, ""), api.ErrForm},
		{query("GET", "/ /", 1, nil, ""), api.ErrForm},
		{query("GET", strings.Repeat("/", api.MaxTarget+1), 1, nil, ""), api.ErrForm},
		{query("GET", "/", 2, nil, ""), api.ErrForm},
		{query("GET", "/", -1, nil, ""), api.ErrForm},
		{query("GET", "/", math.MaxInt, nil, ""), api.ErrForm},
		{query("GET", "/", 1, fields("A", " b"), ""), api.ErrForm},
		{query("GET", "/", 1, fields("A", "b\r\nc: d"), ""), api.ErrForm},
		{query("GET", "/", 1, fields("", "b"), ""), api.ErrForm},
		{query("GET", "/", 1, fields("Content-Length ", "1"), ""), api.ErrForm},
		{query("GET", "/", 1, fields("A", strings.Repeat("v", api.MaxValue+1)), ""), api.ErrForm},
		{query("GET", "/", 1, many(5000), ""), api.ErrForm},
		{query("GET", "/", 1, long, ""), api.ErrLong},
		{query("GET", "/", 1, nil, big), api.ErrBig},

		// The head's errors go ahead of the Body's, as they stand.
		{query("G T", "/", 1, long, big), api.ErrForm},
		{query("G T", "/", 1, nil, big), api.ErrForm},
		{query("G T", "/", 1, long, ""), api.ErrForm},
		{query("GET", "/", 1, long, big), api.ErrLong},
		{query("GET", "/", 1, many(64), big), api.ErrForm},
	} {
		wantPutQuery(t, c.q, "", c.want)
	}
}

// P7.4

func TestPutReply(t *testing.T) {
	for _, c := range framings {
		for _, minor := range []int{0, 1} {
			line := "HTTP/1." + strconv.Itoa(minor) + " 200 OK\r\n"
			for _, method := range []string{"GET", "PUT", "head", "Head", "HEAD ", ""} {
				wantPutReply(t, method, reply(200, "OK", minor, c.l, ""), line+c.left+"Content-Length: 0\r\n\r\n", api.OK)
				wantPutReply(t, method, reply(200, "OK", minor, c.l, "\r\n\r\n\x00\xff0123456"), line+c.left+"Content-Length: 13\r\n\r\n\r\n\r\n\x00\xff0123456", api.OK)
			}
			wantPutReply(t, "HEAD", reply(200, "OK", minor, c.l, ""), line+c.left+"Content-Length: 0\r\n\r\n", api.OK)
			wantPutReply(t, "HEAD", reply(200, "OK", minor, c.l, "0123456789"), line+c.left+"Content-Length: 10\r\n\r\n", api.OK)
			for _, method := range []string{"GET", "HEAD"} {
				wantPutReply(t, method, reply(304, "", minor, c.l, ""), "HTTP/1."+strconv.Itoa(minor)+" 304 \r\n"+c.left+"\r\n", api.OK)
			}
		}
	}
}

func TestPutOfEachStatus(t *testing.T) {
	for status := -300; status < 1000; status++ {
		empty := reply(status, "a", 1, fields("content-length", "9", "b", "c"), "")
		full := reply(status, "a", 1, empty.List, "xy")
		text := "HTTP/1.1 " + strconv.Itoa(status) + " a\r\nb: c\r\n"
		for _, method := range []string{"GET", "HEAD", "POST", ""} {
			switch {
			case status < 100 || status > 599:
				wantPutReply(t, method, empty, "", api.ErrForm)
				wantPutReply(t, method, full, "", api.ErrForm)
			case status < 200 || status == 204 || status == 304:
				wantPutReply(t, method, empty, text+"\r\n", api.OK)
				wantPutReply(t, method, full, "", api.ErrForm)
			case method == "HEAD":
				wantPutReply(t, method, empty, text+"Content-Length: 0\r\n\r\n", api.OK)
				wantPutReply(t, method, full, text+"Content-Length: 2\r\n\r\n", api.OK)
			default:
				wantPutReply(t, method, empty, text+"Content-Length: 0\r\n\r\n", api.OK)
				wantPutReply(t, method, full, text+"Content-Length: 2\r\n\r\nxy", api.OK)
			}
		}
	}
}

func TestPutOfWrongReplies(t *testing.T) {
	big, long := strings.Repeat("x", api.MaxBody+1), filled(5000)
	for _, c := range []struct {
		p    wire.Reply
		want api.Errno
	}{
		{wire.Reply{}, api.ErrForm},
		{reply(99, "", 1, nil, ""), api.ErrForm},
		{reply(600, "", 1, nil, ""), api.ErrForm},
		{reply(math.MinInt, "", 1, nil, ""), api.ErrForm},
		{reply(math.MaxInt, "", 1, nil, ""), api.ErrForm},
		{reply(200, " a", 1, nil, ""), api.ErrForm},
		{reply(200, "a\r\nb: c", 1, nil, ""), api.ErrForm},
		{reply(200, strings.Repeat("r", api.MaxName+1), 1, nil, ""), api.ErrForm},
		{reply(200, "OK", 2, nil, ""), api.ErrForm},
		{reply(200, "OK", -1, nil, "x"), api.ErrForm},
		{reply(200, "OK", 1, fields("A:", "b"), ""), api.ErrForm},
		{reply(200, "OK", 1, long, ""), api.ErrLong},
		{reply(200, "OK", 1, nil, big), api.ErrBig},
		{reply(204, "OK", 1, long, ""), api.ErrLong},

		{reply(200, " ", 1, long, big), api.ErrForm},
		{reply(200, " ", 1, nil, big), api.ErrForm},
		{reply(200, "OK", 1, long, big), api.ErrLong},
		{reply(200, "OK", 1, many(64), big), api.ErrForm},

		// A Body that can't be there, ahead of all sizes.
		{reply(100, "OK", 1, nil, "x"), api.ErrForm},
		{reply(199, "OK", 1, long, "x"), api.ErrForm},
		{reply(204, "OK", 1, nil, big), api.ErrForm},
		{reply(304, "OK", 1, long, big), api.ErrForm},
		{reply(304, "OK", 1, fields("Transfer-Encoding", "chunked", "Content-Length", "1"), "x"), api.ErrForm},
	} {
		for _, method := range []string{"GET", "HEAD", ""} {
			wantPutReply(t, method, c.p, "", c.want)
		}
	}
}

// TestBackAndForth reads what was put, one behind the other.
func TestBackAndForth(t *testing.T) {
	rnd := rand.New(rand.NewSource(77))
	l := func(length int) field.List {
		l := slices.Repeat(fields("A", "b c", "d", "", "Via", "\xff"), rnd.Intn(20))
		if length >= 0 {
			l = append(l, field.Field{Name: "Content-Length", Value: strconv.Itoa(length)})
		}
		return l
	}
	for range 3000 {
		size := []int{0, 1, rnd.Intn(50), rnd.Intn(api.MaxBody + 1), api.MaxBody}[rnd.Intn(5)]
		said := letters(size)
		minor := rnd.Intn(2)
		q := query("PUT", "/x", minor, l(size), said)
		if size == 0 {
			q.List = q.Without("Content-Length")
		}
		b, e := wire.PutQuery(q)
		if e != api.OK {
			t.Fatalf("PutQuery of %.300s: %d", ofQuery(q), e)
		}
		r := fed(t, string(b)+small)
		wantQuery(t, r, q, len(small))
		wantQuery(t, r, smallQuery, 0)

		p := reply([]int{200, 404, 599, 205}[rnd.Intn(4)], "a", minor, l(size), said)
		b, e = wire.PutReply("GET", p)
		if e != api.OK {
			t.Fatalf("PutReply of %.300s: %d", ofReply(p), e)
		}
		r = fed(t, string(b)+quiet)
		wantReply(t, r, "GET", p, len(quiet))
		b, e = wire.PutReply("HEAD", p)
		if e != api.OK {
			t.Fatalf("PutReply of %.300s: %d", ofReply(p), e)
		}
		p.Body = nil
		wantReply(t, fed(t, string(b)+quiet), "HEAD", p, len(quiet))

		p = reply([]int{204, 304}[rnd.Intn(2)], "a", minor, l(-1), "")
		b, e = wire.PutReply("GET", p)
		if e != api.OK {
			t.Fatalf("PutReply of %.300s: %d", ofReply(p), e)
		}
		wantReply(t, fed(t, string(b)+quiet), "GET", p, len(quiet))
	}
}

// Ways

// TestPromoted asks messages for what their heads have.
func TestPromoted(t *testing.T) {
	r := fed(t, "GET / HTTP/1.1\r\nHost: a\r\nhost: B, c\r\n\r\n")
	q, _ := r.Query()
	if s, ok := q.Get("HOST"); !ok || s != "a, B, c" || !q.Has("host", "b") || len(q.All("Host")) != 2 || !q.Request.Right() {
		t.Errorf("%s", ofQuery(q))
	}
	r = fed(t, "HTTP/1.1 204 \r\nVary: a\r\n\r\n")
	p, _ := r.Reply("GET")
	if s, ok := p.Get("vary"); !ok || s != "a" || p.Minor != 1 || !p.Response.Right() {
		t.Errorf("%s", ofReply(p))
	}
}

// Memory

// spoil overwrites a message's lists, their spare room too.
func spoil(l field.List, b []byte) {
	l, b = l[:cap(l)], b[:cap(b)]
	for i := range l {
		l[i] = field.Field{Name: "spoilt", Value: "spoilt"}
	}
	for i := range b {
		b[i] = '!'
	}
}

func TestReadersShareNothing(t *testing.T) {
	for _, frame := range []string{"Content-Length: 3\r\n\r\nabc", "Transfer-Encoding: chunked\r\n\r\n3\r\nabc\r\n0\r\n\r\n", "A: b\r\n\r\n"} {
		text := "PUT / HTTP/1.1\r\n" + frame
		room := []byte(text + text + text + "behind")
		r := wire.NewReader()
		if e := r.Feed(room[:3*len(text)]); e != api.OK || string(room) != text+text+text+"behind" {
			t.Fatalf("an argument was changed: %q, %d", room, e)
		}
		spoil(nil, room)
		first, _ := r.Query()
		want := ofQuery(first)
		second, _ := r.Query()
		spoil(first.List, first.Body)
		if ofQuery(second) != want {
			t.Errorf("answers share memory: %s, not %s", ofQuery(second), want)
		}
		spoil(second.List, second.Body)
		third, e := r.Query()
		feed(t, r, text, api.OK)
		if ofQuery(third) != want || e != api.OK {
			t.Errorf("an answer and a reader share memory: %s, %d, not %s", ofQuery(third), e, want)
		}
		spoil(third.List, third.Body)
		if fourth, e := r.Query(); ofQuery(fourth) != want || e != api.OK {
			t.Errorf("an answer and a reader share memory: %s, %d, not %s", ofQuery(fourth), e, want)
		}
	}
}

func TestRepliesShareNothing(t *testing.T) {
	for _, text := range []string{"HTTP/1.1 200 OK\r\nContent-Length: 3\r\n\r\nabc", "HTTP/1.1 100 \r\nA: b\r\n\r\nHTTP/1.1 204 \r\nc: d\r\n\r\n"} {
		r := fed(t, text+text)
		first, _ := r.Reply("GET")
		want := ofReply(first)
		spoil(first.List, first.Body)
		second, _ := r.Reply("GET")
		if ofReply(second) != want {
			t.Errorf("an answer and a reader share memory: %s, not %s", ofReply(second), want)
		}
	}
	r := fed(t, "HTTP/1.1 200 OK\r\n\r\nto the end")
	r.Close()
	p, _ := r.Reply("GET")
	feed(t, r, "x", api.ErrState)
	if string(p.Body) != "to the end" {
		t.Errorf("%q", p.Body)
	}
}

// wantOwn holds that what a call writes of fields and a body shares no memory
// with them nor with the next answer, and changes neither.
func wantOwn(t *testing.T, l field.List, said string, want string, call func(l field.List, b []byte) []byte) {
	t.Helper()
	fieldRoom := append(slices.Clone(l), fields("behind", "1", "behind", "2")...)
	byteRoom := []byte(said + "behind")
	first := call(fieldRoom[:len(l)], byteRoom[:len(said)])
	second := call(fieldRoom[:len(l)], byteRoom[:len(said)])
	spoil(nil, first)
	if !slices.Equal(fieldRoom, append(slices.Clone(l), fields("behind", "1", "behind", "2")...)) {
		t.Errorf("an argument was changed: %q", fieldRoom)
	}
	if string(byteRoom) != said+"behind" {
		t.Errorf("an argument was changed: %q", byteRoom)
	}
	spoil(fieldRoom, byteRoom)
	if string(second) != want {
		t.Errorf("an answer shares memory: %q, not %q", second, want)
	}
}

func TestPutsShareNothing(t *testing.T) {
	for _, l := range []field.List{nil, fields("A", "b"), fields("A", "b", "Content-Length", "9"), fields("Transfer-Encoding", "x", "A", "b")} {
		for _, said := range []string{"", "abc"} {
			left := ""
			if len(l) > 0 {
				left = "A: b\r\n"
			}
			length := "Content-Length: " + strconv.Itoa(len(said)) + "\r\n"
			ofReply := "HTTP/1.1 200 \r\n" + left + length + "\r\n"
			ofQuery := "P / HTTP/1.1\r\n" + left + length + "\r\n"
			if said == "" {
				ofQuery = "P / HTTP/1.1\r\n" + left + "\r\n"
			}
			wantOwn(t, l, said, ofQuery+said, func(l field.List, b []byte) []byte {
				q := query("P", "/", 1, l, "")
				q.Body = b
				text, _ := wire.PutQuery(q)
				return text
			})
			for _, method := range []string{"GET", "HEAD"} {
				want := ofReply
				if method == "GET" {
					want += said
				}
				wantOwn(t, l, said, want, func(l field.List, b []byte) []byte {
					p := reply(200, "", 1, l, "")
					p.Body = b
					text, _ := wire.PutReply(method, p)
					return text
				})
			}
		}
	}
}

func TestNilAndEmpty(t *testing.T) {
	for _, b := range [][]byte{nil, {}} {
		for _, l := range []field.List{nil, {}} {
			q, p := query("P", "/", 1, l, ""), reply(304, "", 1, l, "")
			q.Body, p.Body = b, b
			wantPutQuery(t, q, "P / HTTP/1.1\r\n\r\n", api.OK)
			wantPutReply(t, "GET", p, "HTTP/1.1 304 \r\n\r\n", api.OK)
			p.Status = 200
			wantPutReply(t, "GET", p, "HTTP/1.1 200 \r\nContent-Length: 0\r\n\r\n", api.OK)
		}
		r := wire.NewReader()
		if e := r.Feed(b); e != api.OK || r.Left() != 0 {
			t.Errorf("%d, %d left", e, r.Left())
		}
		r.Close()
		if e := r.Feed(b); e != api.ErrState {
			t.Errorf("%d", e)
		}
	}
}

// TestAnyBytes gives readers any bytes, in any pieces, and asks them anything:
// all calls end, what is left is what came and wasn't taken, and an error that
// a reader has stays.
func TestAnyBytes(t *testing.T) {
	parts := []string{
		"\r\n", "\r\n\r\n", "\r", "\n", " ", ":", "x", "0", "3", "abc", "801\r\n", "0\r\n\r\n", "\x00\xff",
		"GET / HTTP/1.1\r\n", "PUT /a HTTP/1.0\r\n", "HTTP/1.1 200 OK\r\n", "HTTP/1.1 100 \r\n\r\n", "HTTP/1.0 304 \r\n",
		"Content-Length: 3\r\n", "Content-Length: 9999\r\n", "Transfer-Encoding: chunked\r\n", "A: b\r\n", small, quiet, strings.Repeat("y", 1500),
	}
	rnd := rand.New(rand.NewSource(777))
	for range 20000 {
		h := held{Reader: wire.NewReader()}
		for range rnd.Intn(30) {
			switch rnd.Intn(12) {
			case 0:
				_, e := h.Query()
				h.asked(t, e)
			case 1:
				_, e := h.Reply("GET")
				h.asked(t, e)
			case 2:
				_, e := h.Reply("HEAD")
				h.asked(t, e)
			case 3:
				if rnd.Intn(4) == 0 {
					h.Close()
					h.closed = true
				}
			default:
				h.feed(t, parts[rnd.Intn(len(parts))])
			}
		}
	}
}

// held is a reader, and what is known of it.
type held struct {
	*wire.Reader
	left   int
	closed bool
	wrong  api.Errno
}

func (h *held) feed(t *testing.T, text string) {
	t.Helper()
	want := api.OK
	switch {
	case h.closed || h.wrong != api.OK:
		want = api.ErrState
	case h.left+len(text) > most:
		want = api.ErrBig
	default:
		h.left += len(text)
	}
	if e := h.Feed([]byte(text)); e != want || h.Left() != h.left {
		t.Fatalf("Feed of %.60q: %d, %d left, not %d, %d", text, e, h.Left(), want, h.left)
	}
}

// asked holds what a message that was asked for leaves.
func (h *held) asked(t *testing.T, e api.Errno) {
	t.Helper()
	switch {
	case h.wrong != api.OK && (e != h.wrong || h.Left() != h.left),
		e == api.ErrMore && h.closed,
		e == api.ErrNone && (!h.closed || h.Left() > 0),
		e == api.OK && h.Left() >= h.left,
		h.Left() > h.left:
		t.Fatalf("%d, %d left, of %d left and %d", e, h.Left(), h.left, h.wrong)
	}
	h.left = h.Left()
	if e != api.OK && e != api.ErrMore && e != api.ErrNone {
		h.wrong = e
	}
}
