package pass_test

import (
	"math"
	"math/rand"
	"slices"
	"strings"
	"testing"

	"pantry/api"
	"pantry/date"
	"pantry/field"
	"pantry/pass"
	"pantry/sign"
)

const maxTime = 253402300799

// goNoFurther are the names that the chapter lists.
func goNoFurther() []string {
	return []string{"Connection", "Keep-Alive", "Proxy-Authenticate", "Proxy-Authorization", "Proxy-Connection", "TE", "Trailer", "Transfer-Encoding", "Upgrade", "Content-Length"}
}

// goWhenAsking are the names that are left out when it is asked.
func goWhenAsking() []string {
	return []string{"If-None-Match", "If-Modified-Since", "If-Match", "If-Unmodified-Since", "If-Range", "Range"}
}

// stayWhenMerged are the names that an answer changes not.
func stayWhenMerged() []string {
	return []string{"Via", "Content-Encoding", "Content-Type", "Content-Range"}
}

// others are names that no list of the chapter has, some of them near to one.
func others() []string {
	return []string{
		"", "A", "Connections", "Connectio", "Keep", "Alive", "KeepAlive", "Keep_Alive", "Proxy", "Proxy-", "Proxy-Authenticat", "Proxy-Authenticated", "WWW-Authenticate", "Authorization", "T", "E", "TEE", "Trailers",
		"Transfer", "Encoding", "Transfer-Encodings", "Upgrades", "Content", "Length", "Content-Lengths", "Content-Location", "Content-Language", "Content-MD5", "Accept-Ranges", "Ranges", "Rang", "If", "If-None", "If-Matches",
		"If-Modified", "If-Unmodified", "If-Ranges", "ETags", "Last-Modifie", "Vias", "Vi", "Cache-Control", "Cookie", "Set-Cookie", "Host", "Age", "Date", "Warning", " TE", "TE ", "via ", "\u212aeep-Alive", "Tra\u0131ler", "\xff",
	}
}

// letters is a text in some kinds of letters.
func letters(s string) []string {
	mixed := []byte(strings.ToLower(s))
	for i := range mixed {
		if i%2 == 1 {
			mixed[i] = strings.ToUpper(s)[i]
		}
	}
	return []string{s, strings.ToLower(s), strings.ToUpper(s), string(mixed)}
}

// fields are made of names and values, one after the other.
func fields(parts ...string) field.List {
	var l field.List
	for i := 0; i < len(parts); i += 2 {
		l = append(l, field.Field{Name: parts[i], Value: parts[i+1]})
	}
	return l
}

// also are the fields of all lists.
func also(lists ...field.List) field.List { return slices.Concat(lists...) }

// on is the date of a time.
func on(t int) string {
	s, e := date.Show(t)
	if e != api.OK {
		panic("no time")
	}
	return s
}

func wantStrip(t *testing.T, l, want field.List) {
	t.Helper()
	if got := pass.Strip(l); !slices.Equal(got, want) {
		t.Errorf("Strip(%.300q): %.300q, not %.300q", l, got, want)
	}
}

func wantOnward(t *testing.T, l, want field.List) {
	t.Helper()
	if got := pass.Onward(l); !slices.Equal(got, want) {
		t.Errorf("Onward(%.300q): %.300q, not %.300q", l, got, want)
	}
}

// wantPassed holds what stays, without a Via there.
func wantPassed(t *testing.T, l, stays field.List) {
	t.Helper()
	wantStrip(t, l, stays)
	wantOnward(t, l, also(stays, fields("Via", "1.1 pantry")))
}

func wantAsking(t *testing.T, req, came, want field.List) {
	t.Helper()
	if got := pass.Asking(req, came); !slices.Equal(got, want) {
		t.Errorf("Asking(%.300q, %.300q): %.300q, not %.300q", req, came, got, want)
	}
}

func wantMerge(t *testing.T, came, said, want field.List) {
	t.Helper()
	if got := pass.Merge(came, said); !slices.Equal(got, want) {
		t.Errorf("Merge(%.300q, %.300q): %.300q, not %.300q", came, said, got, want)
	}
}

func wantGood(t *testing.T, req, came field.List, want bool) {
	t.Helper()
	if pass.Good(req, came) != want {
		t.Errorf("Good(%.300q, %.300q) is not %t", req, came, want)
	}
}

func TestExample(t *testing.T) {
	l := fields("Connection", "close, x", "X", "1", "A", "2")
	wantStrip(t, l, fields("A", "2"))
	wantOnward(t, l, fields("A", "2", "Via", "1.1 pantry"))
}

func TestStripEachName(t *testing.T) {
	for _, name := range goNoFurther() {
		for _, called := range letters(name) {
			for _, value := range []string{"", "x", "close"} {
				wantPassed(t, fields(called, value), nil)
				wantPassed(t, fields("A", "1", called, value, "b", "2", called, value, "A", "3", name, value), fields("A", "1", "b", "2", "A", "3"))
			}
		}
	}
	for _, name := range others() {
		l := fields(name, "", "A", "1", name, "x")
		wantPassed(t, l, l)
	}
	for _, name := range slices.Concat(goWhenAsking(), stayWhenMerged()[1:], []string{"ETag", "Last-Modified"}) {
		wantPassed(t, fields(name, "x"), fields(name, "x"))
	}
	wantPassed(t, nil, nil)
	wantPassed(t, field.List{}, nil)
}

func TestStripWhatConnectionNames(t *testing.T) {
	for _, x := range []struct {
		connection []string
		gone       string
	}{
		{[]string{""}, ""}, {[]string{","}, ""}, {[]string{"close"}, ""}, {[]string{"keep-alive, Upgrade"}, ""}, {[]string{"d"}, ""},
		{[]string{"a"}, "a"}, {[]string{"A"}, "a"}, {[]string{"a, b"}, "ab"}, {[]string{",a ,,\tB,"}, "ab"}, {[]string{"close,a,close"}, "a"}, {[]string{"a, a, A"}, "a"},
		{[]string{"a", "b"}, "ab"}, {[]string{"a, x", "y", "C"}, "ac"}, {[]string{"", "", "c"}, "c"},
		// An element is a name as a whole, quotes and all.
		{[]string{"ab"}, ""}, {[]string{"a b"}, ""}, {[]string{"a;b"}, ""}, {[]string{"a=b"}, ""}, {[]string{`"a"`}, ""}, {[]string{`"a, b"`}, ""}, {[]string{`"a", b`}, "b"}, {[]string{`"a, b`}, ""}, {[]string{`"a, b`, "c"}, ""},
		{[]string{`"x`, `y", a`}, "a"}, {[]string{`"x\", b", c`}, "c"}, {[]string{"*"}, ""},
	} {
		for _, called := range letters("Connection") {
			var head, want field.List
			for _, value := range x.connection {
				head = append(head, field.Field{Name: called, Value: value})
			}
			rest := fields("A", "1", "b", "2", "c", "3", "a", "4", "B", "5")
			for _, f := range rest {
				if !strings.Contains(x.gone, strings.ToLower(f.Name)) {
					want = append(want, f)
				}
			}
			wantPassed(t, also(head, rest), want)
			wantPassed(t, also(rest, head), want)
			wantPassed(t, also(rest[:2], head[:1], rest[2:], head[1:]), want)
		}
	}
	// Names that aren't right are named too.
	wantPassed(t, fields("Connection", `"a, b", c d`, `"A, B"`, "1", "C D", "2", "c", "3"), fields("c", "3"))
	wantPassed(t, fields("Connection", ",", "", "1"), fields("", "1"))
	wantPassed(t, fields("Connection", "\u212a", "k", "1", "\u212a", "2"), fields("k", "1"))
	// Nothing else names them.
	for _, name := range goNoFurther()[1:] {
		wantPassed(t, fields(name, "a, b", "a", "1"), fields("a", "1"))
	}
	wantPassed(t, fields("Vary", "a", "a", "1"), fields("Vary", "a", "a", "1"))
	// What is named may name nothing itself.
	wantPassed(t, fields("Connection", "connection, x", "x", "y", "y", "1"), fields("y", "1"))
}

func TestMark(t *testing.T) {
	for _, x := range []struct {
		l    field.List
		mark string
	}{
		{nil, "1.1 pantry"}, {fields("Vias", "x"), "1.1 pantry"}, {fields("Via", "1.0 b"), "1.0 b, 1.1 pantry"}, {fields("Via", "1.0 b", "Via", "1.1 c"), "1.0 b, 1.1 c, 1.1 pantry"},
		{fields("via", "x", "VIA", "y, z", "vIa", "w"), "x, y, z, w, 1.1 pantry"}, {fields("Via", ""), ", 1.1 pantry"}, {fields("Via", "", "Via", ""), ", , 1.1 pantry"}, {fields("Via", "x,"), "x,, 1.1 pantry"},
		{fields("Via", "1.1 pantry"), "1.1 pantry, 1.1 pantry"}, {fields("Via", `"x`), `"x, 1.1 pantry`}, {fields("Via", " \xff\x00"), " \xff\x00, 1.1 pantry"},
		{fields("Via", strings.Repeat("v", api.MaxValue)), strings.Repeat("v", api.MaxValue) + ", 1.1 pantry"},
	} {
		wantOnward(t, x.l, also(x.l.Without("Via"), fields("Via", x.mark)))
		l := also(fields("A", "1", "TE", "t"), x.l, fields("connection", "q", "Q", "2", "A", "3"))
		wantOnward(t, l, also(fields("A", "1"), x.l.Without("Via"), fields("A", "3", "Via", x.mark)))
		wantStrip(t, l, also(fields("A", "1"), x.l, fields("A", "3")))
		// Whom it passed before is told, whatever Connection names.
		named := also(l, fields("Connection", "x, vIA"))
		wantStrip(t, named, also(fields("A", "1"), x.l.Without("Via"), fields("A", "3")))
		wantOnward(t, named, also(fields("A", "1"), x.l.Without("Via"), fields("A", "3", "Via", x.mark)))
	}
}

func TestAskingLeavesOut(t *testing.T) {
	mark := fields("Via", "1.1 pantry")
	wantAsking(t, nil, nil, mark)
	wantAsking(t, fields("A", "1", "Via", "x", "b", "2"), fields("A", "9", "Via", "z", "TE", "q"), fields("A", "1", "b", "2", "Via", "x, 1.1 pantry"))
	for _, name := range goWhenAsking() {
		for _, called := range letters(name) {
			for _, value := range []string{"", "x", `"1"`, on(5)} {
				wantAsking(t, fields(called, value), nil, mark)
				wantAsking(t, fields("A", "1", called, value, "b", "2", called, value, "A", "3"), nil, also(fields("A", "1", "b", "2", "A", "3"), mark))
				wantAsking(t, fields(called, value), fields(called, value), mark)
			}
		}
	}
	for _, name := range goNoFurther() {
		wantAsking(t, fields(name, "x", "A", "1", "x", "2"), nil, also(pass.Strip(fields(name, "x", "A", "1", "x", "2")), mark))
	}
	for _, name := range slices.Concat(others(), stayWhenMerged()[1:], []string{"ETag", "Last-Modified"}) {
		wantAsking(t, fields(name, `"1"`, "A", "1"), nil, also(fields(name, `"1"`, "A", "1"), mark))
	}
}

func TestAskingByTags(t *testing.T) {
	req := fields("If-None-Match", `"q"`, "A", "1", "Via", "x")
	passed := fields("A", "1", "Via", "x, 1.1 pantry")
	for _, x := range []struct {
		came field.List
		tag  string
	}{
		{nil, ""}, {fields("ETag", ""), ""}, {fields("ETags", `"1"`), ""}, {fields("If-None-Match", `"1"`), ""},
		{fields("ETag", `"1"`), `"1"`}, {fields("etag", `W/"1"`), `W/"1"`}, {fields("A", "b", "ETAG", `w/"1"`, "Connection", "etag"), `w/"1"`}, {fields("ETag", "1"), "1"}, {fields("ETag", "*"), "*"}, {fields("ETag", "W/"), "W/"},
		{fields("ETag", `"1"`, "etag", `W/"2"`), `"1", W/"2"`}, {fields("ETag", "", "ETag", ""), ", "}, {fields("ETag", " "), " "}, {fields("ETag", "\xff\n"), "\xff\n"}, {fields("ETag", strings.Repeat("e", api.MaxValue)), strings.Repeat("e", api.MaxValue)},
	} {
		want := passed
		if x.tag != "" {
			want = also(passed, fields("If-None-Match", x.tag))
		}
		wantAsking(t, req, x.came, want)
		wantAsking(t, also(fields("Connection", "if-none-match, etag"), req), x.came, want)
		wantAsking(t, req, also(x.came, fields("Last-Modified", on(9))), also(want, fields("If-Modified-Since", on(9))))
		wantAsking(t, also(req, fields("etag", "z")), x.came, also(fields("A", "1", "etag", "z"), want[1:]))
	}
}

func TestAskingByDates(t *testing.T) {
	req := fields("If-Modified-Since", on(3), "A", "1", "Last-Modified", on(4))
	passed := fields("A", "1", "Last-Modified", on(4), "Via", "1.1 pantry")
	right := on(784111777)
	for _, s := range []string{on(0), on(1), right, on(maxTime)} {
		for _, called := range letters("Last-Modified") {
			wantAsking(t, req, fields("A", "2", called, s), also(passed, fields("If-Modified-Since", s)))
			wantAsking(t, req, fields(called, s, "etag", `"1"`), also(passed, fields("If-None-Match", `"1"`, "If-Modified-Since", s)))
			wantAsking(t, req, fields(called, s, called, s), passed)
			wantAsking(t, req, fields(called, s, called, ""), passed)
		}
	}
	for _, s := range []string{"", "x", "784111777", right + " ", " " + right, right[:28], right + "x", strings.ToLower(right), strings.Replace(right, "Sun", "Mon", 1), strings.Replace(right, ":37", ":60", 1), right + ", " + right} {
		wantAsking(t, req, fields("Last-Modified", s), passed)
		wantAsking(t, req, fields("Last-Modified", s, "ETag", `"1"`), also(passed, fields("If-None-Match", `"1"`)))
	}
	wantAsking(t, req, nil, passed)
	wantAsking(t, req, fields("Date", right, "If-Modified-Since", right, "Last", right), passed)
}

func TestMerge(t *testing.T) {
	came := fields("A", "1", "b", "2", "a", "3", "Via", "v", "TE", "t", "Content-Length", "9")
	for _, x := range []struct{ said, want field.List }{
		{nil, came}, {fields("Connection", "b", "B", "8"), came},
		{fields("b", "9"), fields("A", "1", "b", "9", "a", "3", "Via", "v", "TE", "t", "Content-Length", "9")},
		{fields("B", ""), fields("A", "1", "B", "", "a", "3", "Via", "v", "TE", "t", "Content-Length", "9")},
		{fields("a", "9"), fields("a", "9", "b", "2", "Via", "v", "TE", "t", "Content-Length", "9")},
		{fields("a", "8", "A", "9"), fields("a", "8, 9", "b", "2", "Via", "v", "TE", "t", "Content-Length", "9")},
		{fields("A", "8", "B", "5", "a", "", "A", "9", "b", "6"), fields("A", "8, , 9", "B", "5, 6", "Via", "v", "TE", "t", "Content-Length", "9")},
		{fields("c", "7"), also(came, fields("c", "7"))},
		{fields("d", "7", "C", "6", "D", "5", "c", "4", "e", ""), also(came, fields("d", "7, 5", "C", "6, 4", "e", ""))},
		{fields("d", "7", "b", "9", "c", "8"), also(fields("A", "1", "b", "9", "a", "3"), came[3:], fields("d", "7", "c", "8"))},
		{fields("Connection", "x, D", "d", "7", "c", "8", "X", "9"), also(came, fields("c", "8"))},
		{fields("", "7"), also(came, fields("", "7"))}, {fields("é", "1", "É", "2", "\xff", "3"), also(came, fields("é", "1", "É", "2", "\xff", "3"))},
		{fields("ETag", `"1"`, "Last-Modified", on(5), "Cache-Control", "max-age=9"), also(came, fields("ETag", `"1"`, "Last-Modified", on(5), "Cache-Control", "max-age=9"))},
	} {
		wantMerge(t, came, x.said, x.want)
	}
	wantMerge(t, nil, nil, nil)
	wantMerge(t, nil, fields("a", "1", "b", "2", "A", "3"), fields("a", "1, 3", "b", "2"))
	// What came with the entry stays, even if it goes no further.
	wantMerge(t, fields("Connection", "a", "a", "1"), fields("b", "2"), fields("Connection", "a", "a", "1", "b", "2"))
	wantMerge(t, fields("Connection", "a", "a", "1"), fields("A", "2"), fields("Connection", "a", "A", "2"))
}

func TestMergeLeavesOut(t *testing.T) {
	for _, name := range append(goNoFurther(), stayWhenMerged()...) {
		for _, called := range letters(name) {
			said := fields("b", "2", called, "x", "c", "3", called, "y")
			wantMerge(t, nil, said, fields("b", "2", "c", "3"))
			wantMerge(t, fields(name, "1", "C", "4"), said, fields(name, "1", "c", "3", "b", "2"))
			wantMerge(t, fields(name, "1", "a", "4", called, "5"), said, fields(name, "1", "a", "4", called, "5", "b", "2", "c", "3"))
		}
	}
	for _, name := range slices.Concat(others(), goWhenAsking(), []string{"Content-Location", "ETag", "Last-Modified"}) {
		wantMerge(t, nil, fields("b", "2", name, "x", name, "y"), fields("b", "2", name, "x, y"))
		wantMerge(t, fields(name, "1", "d", "4", name, "5"), fields("b", "2", name, "x"), fields(name, "x", "d", "4", "b", "2"))
	}
}

func TestGoodByTags(t *testing.T) {
	for _, x := range []struct {
		asked, tag string
		want       bool
	}{
		{`"1"`, `"1"`, true}, {`W/"1"`, `"1"`, true}, {`"1"`, `W/"1"`, true}, {`W/"1"`, `W/"1"`, true}, {`"2", "1"`, `"1"`, true}, {`"2",, W/"1" , "3"`, `"1"`, true}, {`"2"`, `"1"`, false}, {`W/"2", "3"`, `W/"1"`, false},
		{`"a"`, `"A"`, false}, {`w/"1"`, `"1"`, false}, {`"1"`, `w/"1"`, false}, {`w/"1"`, `w/"1"`, true}, {`W/w/"1"`, `w/"1"`, true}, {`W"1"`, `"1"`, false}, {`/"1"`, `"1"`, false}, {`W/ "1"`, `"1"`, false}, {`W/ "1"`, ` "1"`, true},
		// Just one W/ is left out.
		{`W/W/"1"`, `"1"`, false}, {`W/W/"1"`, `W/"1"`, false}, {`W/W/"1"`, `W/W/"1"`, true}, {`"1"`, `W/W/"1"`, false}, {`"W/"`, `""`, false}, {`"1"W/`, `"1"`, false},
		// Tags needn't have quotes, but quotes are a part of them.
		{"1", "1", true}, {"W/1", "1", true}, {"1", `"1"`, false}, {`"1"`, "1", false}, {"1, 2", "2", true}, {"12", "1", false}, {"1", "12", false}, {`""`, `""`, true},
		{`"1, 2"`, `"1, 2"`, true}, {`"1, 2"`, "2", false}, {`"1, 2"`, `"1`, false}, {`"1\", 2", x`, `"1\", 2"`, true}, {`"1\", 2", x`, "x", true}, {`"1, 2`, `"1, 2`, true}, {"1, 2", "1, 2", false}, {`"1"`, ` "1"`, false},
		// A star fits any tag, but only a star.
		{"*", `"1"`, true}, {"*", "", true}, {`"2", *`, `"1"`, true}, {",*,", "", true}, {" *\t", "", true}, {"**", `"1"`, false}, {`"*"`, `"1"`, false}, {"W/*", `"1"`, false}, {"W/*", "", false}, {"W/*", "*", true}, {`"1"`, "*", false}, {`"1, *"`, `"1"`, false}, {`"*"`, `"*"`, true},
		// Of none nothing is the same.
		{"", "", false}, {",", "", false}, {"W/", "", false}, {`""`, "", false}, {`"1"`, "", false}, {"W/", "W/", true}, {"W/, x", `"1"`, false}, {"", "W/", false}, {"", `"1"`, false}, {",", ",", false},
	} {
		came := fields("A", "1", "eTag", x.tag, "Last-Modified", on(5))
		for _, called := range letters("If-None-Match") {
			wantGood(t, fields("b", "2", called, x.asked), came, x.want)
			// With a tag that is asked for no date counts.
			wantGood(t, fields("If-Modified-Since", on(9), called, x.asked), came, x.want)
			wantGood(t, fields(called, x.asked, "If-Modified-Since", on(1)), came, x.want)
			wantGood(t, fields("ETag", x.asked, "If-Match", x.asked, "If-Range", x.asked), came, false)
		}
		if x.tag == "" {
			wantGood(t, fields("If-None-Match", x.asked), nil, x.want)
			wantGood(t, fields("If-None-Match", x.asked), fields("If-None-Match", x.asked, "ETags", x.asked), x.want)
		}
	}
}

// TestGoodOfSeveralFields holds that several fields are as one.
func TestGoodOfSeveralFields(t *testing.T) {
	one := fields("ETag", `"1"`)
	wantGood(t, fields("If-None-Match", `"2"`, "a", "b", "if-none-match", `"1"`), one, true)
	wantGood(t, fields("If-None-Match", `"2"`, "if-none-match", `"3"`), one, false)
	wantGood(t, fields("If-None-Match", "", "if-none-match", "*"), one, true)
	wantGood(t, fields("If-None-Match", `"2`, "if-none-match", `"1"`), one, false)
	wantGood(t, fields("If-None-Match", `"2`, "if-none-match", `x", W/"1"`), one, true)
	wantGood(t, fields("If-None-Match", `"2`, "if-none-match", `x"`), fields("etag", `W/"2, x"`), true)
	// Two tags are one, which no element can be, but in quotes.
	two := fields("ETag", `"1"`, "ETag", `"2"`)
	wantGood(t, fields("If-None-Match", `"1", "2"`), two, false)
	wantGood(t, fields("If-None-Match", `"1"`), two, false)
	wantGood(t, fields("If-None-Match", "*"), two, true)
	wantGood(t, fields("If-None-Match", `"1, 2"`), fields("ETag", `"1`, "etag", `2"`), true)
	wantGood(t, fields("If-None-Match", `"1"`), fields("ETag", `"1"`, "etag", ""), false)
}

func TestGoodByDates(t *testing.T) {
	times := []int{0, 1, 1000, 1001, 784111777, maxTime - 1, maxTime}
	for _, since := range times {
		for _, changed := range times {
			for _, called := range letters("If-Modified-Since") {
				wantGood(t, fields("a", "b", called, on(since)), fields("LAST-MODIFIED", on(changed), "ETag", `"1"`), changed <= since)
			}
		}
	}
	right := on(5000)
	for _, s := range []string{"", "x", "5000", right + " ", right[1:], strings.ToUpper(right), "Fri" + right[3:], right + ", " + right} {
		wantGood(t, fields("If-Modified-Since", s), fields("Last-Modified", on(0)), false)
		wantGood(t, fields("If-Modified-Since", on(maxTime)), fields("Last-Modified", s), false)
		wantGood(t, fields("If-Modified-Since", s), fields("Last-Modified", s), false)
		wantGood(t, fields("If-Modified-Since", right, "if-modified-since", s), fields("Last-Modified", on(0)), false)
		wantGood(t, fields("If-Modified-Since", right), fields("Last-Modified", on(0), "last-modified", s), false)
	}
	wantGood(t, fields("If-Modified-Since", right, "if-modified-since", right), fields("Last-Modified", right), false)
	wantGood(t, fields("If-Modified-Since", right), fields("Last-Modified", right, "last-modified", right), false)
	wantGood(t, fields("If-Modified-Since", right), fields("Date", right, "If-Modified-Since", right), false)
	wantGood(t, fields("If-Unmodified-Since", right, "Last-Modified", right), fields("Last-Modified", right), false)
	wantGood(t, fields("If-Modified-Since", right), nil, false)
	wantGood(t, nil, fields("Last-Modified", right, "ETag", `"1"`), false)
	wantGood(t, nil, nil, false)
	wantGood(t, fields("ETag", ""), fields("ETag", ""), false)
}

// TestDrops holds each status, with methods of both kinds.
func TestDrops(t *testing.T) {
	safe := []string{"GET", "HEAD", "OPTIONS", "TRACE"}
	unsafe := []string{"PUT", "POST", "DELETE", "PATCH", "CONNECT", "PURGE", "", "get", "Get", "head", "Head", "options", "trace", "TRACe", "GET ", " GET", "GETS", "GE", "HEADS", "OPTION", "TRAC", "GET,HEAD", "*", "\x00", "\xff", strings.Repeat("GET", 1000)}
	statuses := []int{math.MinInt, -300, -200, -1, 1 << 31, 1<<32 + 200, math.MaxInt}
	for status := range 1200 {
		statuses = append(statuses, status)
	}
	for _, status := range statuses {
		for _, method := range safe {
			if pass.Drops(method, status) {
				t.Errorf("%s, %d drops", method, status)
			}
		}
		for _, method := range unsafe {
			if pass.Drops(method, status) != (status >= 200 && status < 400) {
				t.Errorf("%.20q, %d: %t", method, status, !(status >= 200 && status < 400))
			}
		}
	}
}

// A plain reading of the chapter: fields are gone through one by one, by names
// in small letters.

func small(s string) string {
	return strings.Map(func(r rune) rune {
		if 'A' <= r && r <= 'Z' {
			return r + 32
		}
		return r
	}, s)
}

func values(l field.List, name string) []string {
	var all []string
	for _, f := range l {
		if small(f.Name) == small(name) {
			all = append(all, f.Value)
		}
	}
	return all
}

func joined(l field.List, name string) string { return strings.Join(values(l, name), ", ") }

func isDate(s string) (int, bool) {
	t, e := date.Read(s)
	return t, e == api.OK
}

// plainWithout are the fields of no name of a list, in small letters.
func plainWithout(l field.List, names []string) field.List {
	var others field.List
	for _, f := range l {
		if !slices.Contains(names, small(f.Name)) {
			others = append(others, f)
		}
	}
	return others
}

func smallAll(names []string) []string {
	var all []string
	for _, name := range names {
		all = append(all, small(name))
	}
	return all
}

func plainStrip(l field.List) field.List {
	return plainWithout(l, smallAll(append(sign.List(joined(l, "connection")), goNoFurther()...)))
}

func plainOnward(l field.List) field.List {
	via := append(values(l, "via"), "1.1 pantry")
	return append(plainWithout(plainStrip(l), []string{"via"}), field.Field{Name: "Via", Value: strings.Join(via, ", ")})
}

func plainAsking(req, came field.List) field.List {
	l := plainWithout(plainOnward(req), smallAll(goWhenAsking()))
	if tag := joined(came, "etag"); tag != "" {
		l = append(l, field.Field{Name: "If-None-Match", Value: tag})
	}
	if changed := joined(came, "last-modified"); len(changed) == 29 {
		if _, ok := isDate(changed); ok {
			l = append(l, field.Field{Name: "If-Modified-Since", Value: changed})
		}
	}
	return l
}

// plainMerge goes through what came first, and then through what is new.
func plainMerge(came, said field.List) field.List {
	news := plainWithout(plainStrip(said), smallAll(stayWhenMerged()))
	one := map[string]field.Field{}
	for _, f := range news {
		if _, ok := one[small(f.Name)]; !ok {
			one[small(f.Name)] = field.Field{Name: f.Name, Value: joined(news, f.Name)}
		}
	}
	told := map[string]bool{}
	var all field.List
	for _, f := range came {
		name := small(f.Name)
		if now, ok := one[name]; !ok {
			all = append(all, f)
		} else if !told[name] {
			all = append(all, now)
			told[name] = true
		}
	}
	for _, f := range news {
		if name := small(f.Name); !told[name] {
			all = append(all, one[name])
			told[name] = true
		}
	}
	return all
}

func plainGood(req, came field.List) bool {
	tag := joined(came, "etag")
	if len(values(req, "if-none-match")) > 0 {
		for _, x := range sign.List(joined(req, "if-none-match")) {
			if x == "*" {
				return true
			}
			if tag != "" && (x == tag || "W/"+x == tag || x == "W/"+tag || strings.HasPrefix(x, "W/") && strings.HasPrefix(tag, "W/") && x[2:] == tag[2:]) {
				return true
			}
		}
		return false
	}
	since, ok := isDate(joined(req, "if-modified-since"))
	changed, ok2 := isDate(joined(came, "last-modified"))
	return ok && ok2 && since >= changed
}

// anyFields draws fields of a few names, so that many of them are the same, in
// any letters.
func anyFields(r *rand.Rand, names []string) field.List {
	values := []string{"", "x", "a", "A, b", `"1"`, `W/"1"`, `"2", "1"`, "*", "W/", `"1`, `q", via`, "c, etag, X", "close", on(5), on(6), on(7), on(5), on(6), "if-none-match, last-modified", "content-type,Range", "Via , Connection"}
	l := make(field.List, r.Intn(8))
	for i := range l {
		called := letters(names[r.Intn(len(names))])
		l[i] = field.Field{Name: called[r.Intn(len(called))], Value: values[r.Intn(len(values))]}
	}
	return l
}

func TestAgainstAPlainReading(t *testing.T) {
	names := slices.Concat(goNoFurther(), goWhenAsking(), stayWhenMerged(), []string{"Connection", "Connection", "Via", "ETag", "ETag", "Last-Modified", "Last-Modified", "If-None-Match", "If-Modified-Since", "a", "b", "c", "x", ""})
	asking := []string{"If-None-Match", "If-Modified-Since", "If-Modified-Since", "x"}
	coming := []string{"ETag", "Last-Modified", "Last-Modified", "x"}
	r := rand.New(rand.NewSource(13))
	good := 0
	for range 60000 {
		req, came := anyFields(r, names), anyFields(r, names)
		if r.Intn(2) == 0 {
			req, came = anyFields(r, asking), anyFields(r, coming)
		}
		wantStrip(t, req, plainStrip(req))
		wantOnward(t, req, plainOnward(req))
		wantAsking(t, req, came, plainAsking(req, came))
		wantMerge(t, req, came, plainMerge(req, came))
		want := plainGood(req, came)
		wantGood(t, req, came, want)
		if want {
			good++
		}
		if t.Failed() {
			return
		}
	}
	if good < 1000 {
		t.Errorf("too few are good: %d", good)
	}
}

// TestAnyBytes holds that wrong fields end too, and against the same reading.
func TestAnyBytes(t *testing.T) {
	const signs = "\"\\, \t*W/1aA\x00\x7f\xff"
	r := rand.New(rand.NewSource(130))
	names := []string{"Connection", "Via", "ETag", "If-None-Match", "If-Modified-Since", "Last-Modified", "", "a", "A", "\xff", `"`}
	draw := func() field.List {
		l := make(field.List, r.Intn(6))
		for i := range l {
			b := make([]byte, r.Intn(8))
			for j := range b {
				b[j] = signs[r.Intn(len(signs))]
			}
			l[i] = field.Field{Name: names[r.Intn(len(names))], Value: string(b)}
		}
		return l
	}
	for range 30000 {
		req, came := draw(), draw()
		wantStrip(t, req, plainStrip(req))
		wantOnward(t, req, plainOnward(req))
		wantAsking(t, req, came, plainAsking(req, came))
		wantMerge(t, req, came, plainMerge(req, came))
		wantGood(t, req, came, plainGood(req, came))
		if t.Failed() {
			return
		}
	}
}

// TestManyFields holds that lists and values past all limits are read too.
func TestManyFields(t *testing.T) {
	many := slices.Repeat(fields("x", "1", "Connection", "a, b", "A", "2", "Via", "v"), 2000)
	vias := strings.Repeat("v, ", 2000) + "1.1 pantry"
	xs := strings.Repeat("1, ", 1999) + "1"
	wantOnward(t, many, also(slices.Repeat(fields("x", "1"), 2000), fields("Via", vias)))
	wantMerge(t, many[:1], many, fields("x", xs))
	wantMerge(t, nil, many, fields("x", xs))
	wantGood(t, slices.Repeat(fields("If-None-Match", `"2"`), 8000), fields("ETag", `"1"`), false)
	wantGood(t, append(slices.Repeat(fields("If-None-Match", `"2"`), 8000), fields("if-none-match", `W/"1"`)...), fields("ETag", `"1"`), true)
	wantPassed(t, fields("Connection", strings.Repeat("x,", 100000)+"A", "x", "1", "a", "2", "b", "3"), fields("b", "3"))
}

// roomy is a list with spare room, where marks stand.
func roomy(l field.List) field.List {
	mark := field.Field{Name: "mark", Value: "1"}
	return append(slices.Clone(l), mark, mark, mark)[:len(l)]
}

func spoil(l field.List) {
	l = l[:cap(l)]
	for i := range l {
		l[i] = field.Field{Name: "spoilt", Value: "spoilt"}
	}
}

// TestArgumentsStayAndAnswersAreNew holds also lists of which one is a piece of
// the other one.
func TestArgumentsStayAndAnswersAreNew(t *testing.T) {
	first := fields("a", "1", "Connection", "q", "Via", "x", "b", "2", "If-None-Match", `"1"`, "A", "3")
	second := fields("ETag", `"1"`, "a", "4", "c", "5", "A", "6", "Last-Modified", on(5), "q", "7")
	for i, call := range []func(l, m field.List) field.List{
		func(l, m field.List) field.List { return pass.Strip(l) },
		func(l, m field.List) field.List { return pass.Strip(l[:1]) },
		func(l, m field.List) field.List { return pass.Strip(m) },
		func(l, m field.List) field.List { return pass.Onward(l) },
		func(l, m field.List) field.List { return pass.Onward(l[:0]) },
		func(l, m field.List) field.List { return pass.Onward(l[:1]) },
		func(l, m field.List) field.List { return pass.Onward(m) },
		func(l, m field.List) field.List { return pass.Asking(l, m) },
		func(l, m field.List) field.List { return pass.Asking(l[:1], m[:1]) },
		func(l, m field.List) field.List { return pass.Asking(m, l) },
		func(l, m field.List) field.List { return pass.Asking(m, m) },
		func(l, m field.List) field.List { return pass.Merge(l, m) },
		func(l, m field.List) field.List { return pass.Merge(m, l) },
		func(l, m field.List) field.List { return pass.Merge(l, l[:2]) },
		func(l, m field.List) field.List { return pass.Merge(l[:2], l) },
		func(l, m field.List) field.List { return pass.Merge(l[:1], nil) },
		func(l, m field.List) field.List { return pass.Merge(nil, l[:1]) },
		func(l, m field.List) field.List { pass.Good(l, m); return pass.Merge(l, nil) },
	} {
		l, m := roomy(first), roomy(second)
		lRoom, mRoom := slices.Clone(l[:cap(l)]), slices.Clone(m[:cap(m)])
		one := call(l, m)
		want := slices.Clone(one)
		two := call(l, m)
		spoil(one)
		if !slices.Equal(two, want) {
			t.Errorf("%d: two answers share memory: %q", i, two)
		}
		if !slices.Equal(l[:cap(l)], lRoom) || !slices.Equal(m[:cap(m)], mRoom) {
			t.Errorf("%d: an argument was changed: %q, %q", i, l[:cap(l)], m[:cap(m)])
		}
		spoil(l)
		spoil(m)
		if !slices.Equal(two, want) {
			t.Errorf("%d: an answer shares memory with an argument: %q", i, two)
		}
		if again := call(roomy(first), roomy(second)); !slices.Equal(again, want) {
			t.Errorf("%d: something is kept from call to call: %q, not %q", i, again, want)
		}
	}
}
