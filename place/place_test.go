package place_test

import (
	"fmt"
	"math/rand"
	"regexp"
	"strconv"
	"strings"
	"testing"

	"pantry/api"
	"pantry/place"
)

// each tells f every text of at most most of these signs.
func each(signs string, most int, f func(s string)) {
	var grow func(s string)
	grow = func(s string) {
		f(s)
		if len(s) == most {
			return
		}
		for i := 0; i < len(signs); i++ {
			grow(s + signs[i:i+1])
		}
	}
	grow("")
}

// of is a text of one byte.
func of(c int) string { return string([]byte{byte(c)}) }

const (
	small  = "abcdefghijklmnopqrstuvwxyz"
	great  = "ABCDEFGHIJKLMNOPQRSTUVWXYZ"
	digits = "0123456789"
)

// A plain reading of the chapter, by regular expressions and RFC 3986.

var (
	hostForm   = regexp.MustCompile(`\A([a-zA-Z0-9.-]{1,40})(?::([0-9]{0,5}))?\z`)
	cleanForm  = regexp.MustCompile(`\A(?:[\x21\x22\x24\x26-\x7e]|%[0-9a-fA-F]{2})*\z`)
	marks      = regexp.MustCompile(`%[0-9a-fA-F]{2}`)
	unmarked   = regexp.MustCompile(`\A[a-zA-Z0-9._~-]\z`)
	ownForm    = regexp.MustCompile(`(?is)\Ahttp://([^/?]*)(/[^?]*)?(?:(\?)(.*))?\z`)
	targetForm = regexp.MustCompile(`(?s)\A(/[^?]*)(?:(\?)(.*))?\z`)
)

func plainHost(s string) (string, bool) {
	m := hostForm.FindStringSubmatch(s)
	if m == nil {
		return "", false
	}
	name := strings.ToLower(m[1])
	if m[2] == "" {
		return name, true
	}
	n, err := strconv.Atoi(m[2])
	if err != nil {
		panic(err)
	}
	if n == 80 {
		return name, true
	}
	return fmt.Sprintf("%s:%d", name, n), true
}

func plainClean(s string) (string, bool) {
	if !cleanForm.MatchString(s) {
		return "", false
	}
	return marks.ReplaceAllStringFunc(s, func(mark string) string {
		n, _ := strconv.ParseInt(mark[1:], 16, 0)
		if c := of(int(n)); unmarked.MatchString(c) {
			return c
		}
		return strings.ToUpper(mark)
	}), true
}

// plainSettle is RFC 3986's 'Remove Dot Segments'.
func plainSettle(in string) string {
	out := ""
	for in != "" {
		switch {
		case strings.HasPrefix(in, "/./"):
			in = in[2:]
		case in == "/.":
			in = "/"
		case strings.HasPrefix(in, "/../"), in == "/..":
			in = "/" + strings.TrimPrefix(in[3:], "/")
			out = out[:max(0, strings.LastIndex(out, "/"))]
		default:
			end := strings.Index(in[1:], "/") + 1
			if end == 0 {
				end = len(in)
			}
			out, in = out+in[:end], in[end:]
		}
	}
	return out
}

func plainRead(target, host string) (place.Place, bool) {
	var path, mark, query string
	if m := ownForm.FindStringSubmatch(target); m != nil {
		host, path, mark, query = m[1], m[2], m[3], m[4]
		if path == "" {
			path = "/"
		}
	} else if m := targetForm.FindStringSubmatch(target); m != nil {
		path, mark, query = m[1], m[2], m[3]
	} else {
		return place.Place{}, false
	}
	host, ok := plainHost(host)
	path, pathOK := plainClean(path)
	query, queryOK := plainClean(query)
	if !ok || !pathOK || !queryOK {
		return place.Place{}, false
	}
	path = plainSettle(path)
	if len(path) > 512 || len(query) > 512 {
		return place.Place{}, false
	}
	return place.Place{Host: host, Path: path, Query: query, Has: mark != ""}, true
}

// wantHost holds what Host answers; "" is none.
func wantHost(t *testing.T, s, want string) {
	t.Helper()
	e := api.OK
	if want == "" {
		e = api.ErrTarget
	}
	if got, gotE := place.Host(s); got != want || gotE != e {
		t.Fatalf("Host(%.100q): %q, %d, not %q, %d", s, got, gotE, want, e)
	}
}

// wantPlace holds what Read answers, and that what is shown of it is read as
// it again.
func wantPlace(t *testing.T, target, host string, want place.Place) {
	t.Helper()
	got, e := place.Read(target, host)
	if got != want || e != api.OK {
		t.Fatalf("Read(%.100q, %.100q): %#v, %d, not %#v", target, host, got, e, want)
	}
	if again, e := place.Read(want.Show(), want.Host); again != want || e != api.OK {
		t.Fatalf("Read(%.100q, %.100q): %#v, %d, not as shown: %#v", want.Show(), want.Host, again, e, want)
	}
}

func wantNoPlace(t *testing.T, target, host string) {
	t.Helper()
	if got, e := place.Read(target, host); got != (place.Place{}) || e != api.ErrTarget {
		t.Fatalf("Read(%.100q, %.100q): %#v, %d", target, host, got, e)
	}
}

// wantPlain holds Read against the plain reading.
func wantPlain(t *testing.T, target, host string) {
	t.Helper()
	if want, ok := plainRead(target, host); ok {
		wantPlace(t, target, host, want)
	} else {
		wantNoPlace(t, target, host)
	}
}

// P8.1

func TestHost(t *testing.T) {
	name := strings.Repeat("aB", 20)
	for s, want := range map[string]string{
		"a":                   "a",
		"A.b-C.9":             "a.b-c.9",
		"-":                   "-",
		".":                   ".",
		"...":                 "...",
		"0":                   "0",
		"192.0.2.1":           "192.0.2.1",
		"a:":                  "a",
		"A:80":                "a",
		"a:080":               "a",
		"a:00080":             "a",
		"a:8":                 "a:8",
		"a:800":               "a:800",
		"a:08":                "a:8",
		"a:00081":             "a:81",
		"a:0":                 "a:0",
		"a:00000":             "a:0",
		"a:1":                 "a:1",
		"a:99999":             "a:99999",
		"a:65536":             "a:65536",
		"80":                  "80",
		"80:80":               "80",
		"x.Y:443":             "x.y:443",
		name:                  strings.ToLower(name),
		name + ":":            strings.ToLower(name),
		name + ":00080":       strings.ToLower(name),
		name + ":12345":       strings.ToLower(name) + ":12345",
		small + "-.01":        small + "-.01",
		great + "-.23456789":  small + "-.23456789",
		"a.b":                 "a.b",
		"a..b":                "a..b",
		"xn--a":               "xn--a",
		strings.ToUpper(name): strings.ToLower(name),
	} {
		wantHost(t, s, want)
	}
}

func TestHostOfWrongTexts(t *testing.T) {
	name := strings.Repeat("a", 41)
	for _, s := range []string{
		"", ":", ":80", ":1", "::", "a::", "a::80", "a:80:", "a:80:80", "a:b", "a:8b", "a:b8",
		"a:+80", "a:-1", "a: 80", "a:80 ", "a :80", " a", "a ", "a:0x1", "a:1_0", "a:123456", "a:000080", "a:000000",
		"a_b", "a/b", "a/", "/a", "a?", "a#", "u@a", "[::1]", "a,b", "%61", "a%2e", "é", "aé", "a\x00", "\xff", "a\n", "a\r\n", "a:80\n", "a:\n",
		"\u212a", "a:\u0661", "a:8\xff", "http://a",
		name, name + ":", name + ":80", name + ":1", strings.Repeat("a", 46), strings.Repeat("a", 100000), "a:" + strings.Repeat("0", 100000),
		"a:" + strings.Repeat("9", 100),
	} {
		wantHost(t, s, "")
	}
}

func TestHostOfEachByte(t *testing.T) {
	for c := range 256 {
		s, want := of(c), ""
		if i := strings.IndexByte(great, byte(c)); i >= 0 {
			want = small[i : i+1]
		} else if strings.Contains(small+digits+"-.", s) {
			want = s
		}
		wantHost(t, s, want)
		for _, text := range []string{"a%s", "%sa", "a%sa", "-%s.", strings.Repeat("a", 39) + "%s"} {
			whole := fmt.Sprintf(strings.ReplaceAll(text, "%s", "%[1]s"), s)
			switch {
			case want != "":
				wantHost(t, whole, fmt.Sprintf(text, want))
				wantHost(t, whole+":7", fmt.Sprintf(text, want)+":7")
			case s == ":" && strings.HasSuffix(whole, ":"):
				wantHost(t, whole, whole[:len(whole)-1])
			default:
				wantHost(t, whole, "")
			}
		}
		for i, text := range []string{"a:" + s, "a:1" + s, "a:" + s + "1", "a:1" + s + "2", "a:1234" + s} {
			want := ""
			if strings.Contains(digits, s) {
				n, _ := strconv.Atoi(text[2:])
				want = "a:" + strconv.Itoa(n)
				if n == 80 {
					t.Fatal(i)
				}
			}
			wantHost(t, text, want)
		}
	}
}

func TestHostOfEachNumber(t *testing.T) {
	for n := range 100000 {
		want := "a:" + strconv.Itoa(n)
		if n == 80 {
			want = "a"
		}
		for text := strconv.Itoa(n); len(text) <= 5; text = "0" + text {
			wantHost(t, "A:"+text, want)
		}
		wantHost(t, "a:"+fmt.Sprintf("%06d", n), "")
		wantHost(t, "a:"+strconv.Itoa(n+100000), "")
	}
}

func TestHostOfEachLength(t *testing.T) {
	for n := 1; n < 100; n++ {
		s := strings.Repeat("Q", n)
		for tail, shown := range map[string]string{"": "", ":": "", ":80": "", ":81": ":81", ":00000": ":0"} {
			want := ""
			if n <= api.MaxHost {
				want = strings.Repeat("q", n) + shown
			}
			wantHost(t, s+tail, want)
		}
	}
}

func TestHostOfAllShortTexts(t *testing.T) {
	each("Ab.-80:_", 6, func(s string) {
		want, _ := plainHost(s)
		wantHost(t, s, want)
		if want != "" {
			wantHost(t, want, want)
		}
	})
}

// P8.2

func TestReadOfTheDocument(t *testing.T) {
	wantPlace(t, "/a/./b/../c%7e?x=%2f", "A.b:80", place.Place{Host: "a.b", Path: "/a/c\x7e", Query: "x=%2F", Has: true})
}

func TestReadOfItsHost(t *testing.T) {
	for s, want := range map[string]string{
		"a": "a", "A.B": "a.b", "a:80": "a", "a:": "a", "a:081": "a:81", "a:0": "a:0", strings.Repeat("A", 40) + ":99999": strings.Repeat("a", 40) + ":99999",
	} {
		wantPlace(t, "/x", s, place.Place{Host: want, Path: "/x"})
		wantPlace(t, "/?q", s, place.Place{Host: want, Path: "/", Query: "q", Has: true})
		for _, other := range []string{"", "other", "other:81", ":", "a b", "\xff", strings.Repeat("a", 1000)} {
			wantPlace(t, "http://"+s, other, place.Place{Host: want, Path: "/"})
			wantPlace(t, "http://"+s+"/", other, place.Place{Host: want, Path: "/"})
			wantPlace(t, "http://"+s+"/x/../y", other, place.Place{Host: want, Path: "/y"})
			wantPlace(t, "http://"+s+"?", other, place.Place{Host: want, Path: "/", Has: true})
			wantPlace(t, "http://"+s+"?q/../r?s", other, place.Place{Host: want, Path: "/", Query: "q/../r?s", Has: true})
			wantPlace(t, "http://"+s+"/x?q", other, place.Place{Host: want, Path: "/x", Query: "q", Has: true})
			wantPlace(t, "http://"+s+"//y/.?/", other, place.Place{Host: want, Path: "//y/", Query: "/", Has: true})
		}
	}
	for _, s := range []string{
		"", ":", ":80", "a:b", "a:123456", "a b", "a_b", "u@a", "u:p@a", "[::1]", "a#", "a#b", "%61", "a:80:80", "é", "\xff", "a\x00", " a", "a\\", strings.Repeat("a", 41),
	} {
		wantNoPlace(t, "/x", s)
		wantNoPlace(t, "/", s)
		wantNoPlace(t, "/?q", s)
		for _, tail := range []string{"", "/", "/x", "?", "?q", "/x?q"} {
			wantNoPlace(t, "http://"+s+tail, "a")
		}
	}
	// What would end a target's own host is no part of the one that is told.
	for _, s := range []string{"a/", "a/x", "a?", "a?q", "http://a", "/"} {
		wantNoPlace(t, "/x", s)
	}
}

func TestReadOfTheLeadInAnyLetters(t *testing.T) {
	for bits := range 16 {
		lead := []byte("http")
		for i := range lead {
			if bits>>i&1 == 1 {
				lead[i] -= 'a' - 'A'
			}
		}
		wantPlace(t, string(lead)+"://X/y", "other", place.Place{Host: "x", Path: "/y"})
	}
}

func TestReadOfWrongKinds(t *testing.T) {
	const whole = "http://a/b"
	for i := range len("http://") + 1 {
		wantNoPlace(t, whole[:i], "h")
	}
	for i := range len("http://") {
		wantNoPlace(t, whole[:i]+whole[i+1:], "h")
		wantNoPlace(t, whole[:i]+"x"+whole[i:], "h")
		for c := range 256 {
			s := whole[:i] + of(c) + whole[i+1:]
			switch {
			case i == 0 && c == '/':
				wantPlace(t, s, "h", place.Place{Host: "h", Path: "/ttp://a/b"})
			case strings.EqualFold(s, whole):
				wantPlace(t, s, "h", place.Place{Host: "a", Path: "/b"})
			default:
				wantNoPlace(t, s, "h")
			}
		}
	}
	for _, s := range []string{
		"", "*", "a", "a/b", "?", "?a", "#", "./a", "../a", ".", "%2f", "%2fa", "\\a", " /a", "a:80", "a.b/c",
		"https://a/b", "ftp://a/b", "ws://a/b", "http:a/b", "http:/a/b", "http//a/b", "http:\\\\a/b", "http%3a//a/b", "%68ttp://a/b", "httpſ://a", " http://a/b", "http ://a/b",
		"http:///", "http:///a/b", "http://?", "http://?q", "http:////", "http://", "http://:80/", "http://#a",
	} {
		wantNoPlace(t, s, "h")
	}
	// Behind a slash nothing is a lead.
	wantPlace(t, "/http://a/b", "h", place.Place{Host: "h", Path: "/http://a/b"})
	wantPlace(t, "//a/b", "h", place.Place{Host: "h", Path: "//a/b"})
	wantPlace(t, "http://a//b", "h", place.Place{Host: "a", Path: "//b"})
	wantPlace(t, "http://a/http://b/?http://c", "h", place.Place{Host: "a", Path: "/http://b/", Query: "http://c", Has: true})
}

func TestReadOfSegments(t *testing.T) {
	for path, want := range map[string]string{
		"/":             "/",
		"//":            "//",
		"///":           "///",
		"/a":            "/a",
		"/a/":           "/a/",
		"/a/b":          "/a/b",
		"/a//b/":        "/a//b/",
		"/.":            "/",
		"/./":           "/",
		"/././.":        "/",
		"/..":           "/",
		"/../":          "/",
		"/../..":        "/",
		"/../../":       "/",
		"/../a":         "/a",
		"/../../a":      "/a",
		"/./a":          "/a",
		"/a/.":          "/a/",
		"/a/./":         "/a/",
		"/a/./b":        "/a/b",
		"/a/..":         "/",
		"/a/../":        "/",
		"/a/../b":       "/b",
		"/a/b/..":       "/a/",
		"/a/b/../":      "/a/",
		"/a/b/../..":    "/",
		"/a/b/../../..": "/",
		"/a/../../b":    "/b",
		"/a/b/../c":     "/a/c",
		"/a/b/c/../../": "/a/",
		"/a/b/./../c":   "/a/c",
		"/a/.././b":     "/b",
		"/a//..":        "/a/",
		"/a//../b":      "/a/b",
		"/a//../../b":   "/b",
		"//..":          "/",
		"//../":         "/",
		"//../a":        "/a",
		"///..":         "//",
		"//./a":         "//a",
		"//.":           "//",
		"/..//a":        "//a",
		"/.//a":         "//a",
		"/...":          "/...",
		"/.../..":       "/",
		"/.a":           "/.a",
		"/a.":           "/a.",
		"/..a":          "/..a",
		"/a..":          "/a..",
		"/a/...":        "/a/...",
		"/a/.b/..c/d..": "/a/.b/..c/d..",
		"/a/..;/b":      "/a/..;/b",
		"/a\\..\\b":     "/a\\..\\b",
		"/%2e":          "/",
		"/%2E%2e":       "/",
		"/.%2e/a":       "/a",
		"/%2e./a":       "/a",
		"/a/b/%2E%2E":   "/a/",
		"/a/%2e/b":      "/a/b",
		"/a/%2e%2e%2e":  "/a/...",
		"/a%2f..":       "/a%2F..",
		"/a/%2f../b":    "/a/%2F../b",
		"/a%2f/../b":    "/b",
		"/a/%252e%252e": "/a/%252e%252e",
	} {
		wantPlace(t, path, "h", place.Place{Host: "h", Path: want})
		wantPlace(t, path+"?", "h", place.Place{Host: "h", Path: want, Has: true})
		wantPlace(t, path+"?/../.", "h", place.Place{Host: "h", Path: want, Query: "/../.", Has: true})
		wantPlace(t, "HTTP://G"+path, "h", place.Place{Host: "g", Path: want})
	}
}

func TestReadOfAllShortPaths(t *testing.T) {
	each("/.a", 9, func(s string) { wantPlain(t, "/"+s, "h") })
	each("/.a?", 6, func(s string) {
		wantPlain(t, s, "h")
		wantPlain(t, "http://b"+s, "h")
		wantPlain(t, "http://"+s, "h")
	})
	each("/.%2eA?", 5, func(s string) { wantPlain(t, "/"+s, "h") })
}

func TestReadOfTheFirstMark(t *testing.T) {
	for target, want := range map[string]place.Place{
		"/?":          {Host: "h", Path: "/", Has: true},
		"/??":         {Host: "h", Path: "/", Query: "?", Has: true},
		"/a?b?c":      {Host: "h", Path: "/a", Query: "b?c", Has: true},
		"/a%3f?b":     {Host: "h", Path: "/a%3F", Query: "b", Has: true},
		"/a%3fb":      {Host: "h", Path: "/a%3Fb"},
		"/a?/b/":      {Host: "h", Path: "/a", Query: "/b/", Has: true},
		"/a?../..":    {Host: "h", Path: "/a", Query: "../..", Has: true},
		"/a/..?x":     {Host: "h", Path: "/", Query: "x", Has: true},
		"/a/?x/..":    {Host: "h", Path: "/a/", Query: "x/..", Has: true},
		"/?a=%41%2f&": {Host: "h", Path: "/", Query: "a=A%2F&", Has: true},
		"/?%2e%2e/":   {Host: "h", Path: "/", Query: "../", Has: true},
		"/?%3f":       {Host: "h", Path: "/", Query: "%3F", Has: true},
	} {
		wantPlace(t, target, "h", want)
	}
}

// unreserved are the bytes that stand for the digits of their numbers.
const unreserved = small + great + digits + "-._\x7e"

func TestReadOfEachByte(t *testing.T) {
	for c := range 256 {
		s := of(c)
		good := 0x21 <= c && c <= 0x7e && s != "#" && s != "%"
		for _, target := range []string{"/" + s, "/a" + s, "/" + s + "a", "/a" + s + "a", "http://h/a" + s + "a"} {
			path := strings.TrimPrefix(target, "http://h")
			switch {
			case !good:
				wantNoPlace(t, target, "h")
			case s == "?":
				path, query, _ := strings.Cut(path, "?")
				wantPlace(t, target, "h", place.Place{Host: "h", Path: path, Query: query, Has: true})
			case path == "/.":
				wantPlace(t, target, "h", place.Place{Host: "h", Path: "/"})
			default:
				wantPlace(t, target, "h", place.Place{Host: "h", Path: path})
			}
		}
		for _, query := range []string{s, "a" + s, s + "a", "a" + s + "a"} {
			for _, lead := range []string{"/?", "http://h?", "http://h/?"} {
				if good {
					wantPlace(t, lead+query, "h", place.Place{Host: "h", Path: "/", Query: query, Has: true})
				} else {
					wantNoPlace(t, lead+query, "h")
				}
			}
		}
	}
}

func TestReadOfEachNumber(t *testing.T) {
	for c := range 256 {
		want := fmt.Sprintf("%%%02X", c)
		if strings.Contains(unreserved, of(c)) {
			want = of(c)
		}
		for _, form := range []string{"%%%02x", "%%%02X"} {
			mark := fmt.Sprintf(form, c)
			// Each digit's letters by themselves too.
			for _, m := range []string{mark, "%" + strings.ToUpper(mark[1:2]) + mark[2:], "%" + strings.ToLower(mark[1:2]) + mark[2:]} {
				wantPlace(t, "/a"+m, "h", place.Place{Host: "h", Path: "/a" + want})
				wantPlace(t, "/a"+m+"1"+m, "h", place.Place{Host: "h", Path: "/a" + want + "1" + want})
				wantPlace(t, "/?"+m, "h", place.Place{Host: "h", Path: "/", Query: want, Has: true})
				wantPlace(t, "http://h?"+m+m, "h", place.Place{Host: "h", Path: "/", Query: want + want, Has: true})
			}
		}
	}
}

func TestReadOfEachTwoBytesBehindAMark(t *testing.T) {
	for i := range 256 {
		for j := range 256 {
			two := of(i) + of(j)
			wantPlain(t, "/a%"+two, "h")
			wantPlain(t, "/a?%"+two+"b", "h")
		}
	}
}

func TestReadOfWrongMarks(t *testing.T) {
	for _, s := range []string{
		"%", "%4", "%f", "%g1", "%1g", "%4g", "%%", "%%41", "%4%", "%4%31", "a%", "a%2", "%41%", "%41%4", "%0x", "%0x41", "%x41", "%u0041", "%+1", "%-1", "% 1", "%1 ", "%_1", "%1_", "%\xff\xff", "%é", "%4\x00", "%４1", "%#1", "%1?", "%?1", "%/1", "%1/",
	} {
		wantNoPlace(t, "/"+s, "h")
		wantNoPlace(t, "http://h/"+s, "h")
		wantNoPlace(t, "/?"+s, "h")
		wantNoPlace(t, "http://h?"+s, "h")
		// What a path loses must be right too.
		wantNoPlace(t, "/"+s+"/../a", "h")
	}
	for _, s := range []string{"%41%42", "%2541", "%25", "%2525", "%2f2f", "%7e%7E%7f"} {
		wantPlain(t, "/"+s+"?"+s, "h")
	}
	wantPlace(t, "/%2541?%254", "h", place.Place{Host: "h", Path: "/%2541", Query: "%254", Has: true})
	// A byte that a number stands for doesn't take the bytes behind it.
	wantPlace(t, "/%34%31%2541", "h", place.Place{Host: "h", Path: "/41%2541"})
}

func TestReadOfEachLength(t *testing.T) {
	for n := range 1100 {
		path, query := "/"+strings.Repeat("a", n), strings.Repeat("b", n)
		if n+1 <= api.MaxPath {
			wantPlace(t, path, "h", place.Place{Host: "h", Path: path})
			wantPlace(t, "http://h"+path+"?", "h", place.Place{Host: "h", Path: path, Has: true})
		} else {
			wantNoPlace(t, path, "h")
			wantNoPlace(t, "http://h"+path+"?", "h")
		}
		if n <= api.MaxPath {
			wantPlace(t, "/?"+query, "h", place.Place{Host: "h", Path: "/", Query: query, Has: true})
			wantPlace(t, "http://h?"+query, "h", place.Place{Host: "h", Path: "/", Query: query, Has: true})
		} else {
			wantNoPlace(t, "/?"+query, "h")
			wantNoPlace(t, "http://h?"+query, "h")
		}
	}
}

func TestReadOfLengthsWhenDone(t *testing.T) {
	// What is cleaned and left out doesn't count, what is kept as digits does.
	most := "/" + strings.Repeat("a", 511)
	for _, target := range []string{
		"/" + strings.Repeat("%61", 511),
		"/" + strings.Repeat("./", 10000) + most[1:],
		"/" + strings.Repeat("../", 10000) + most[1:],
		strings.Repeat("/b/..", 10000) + most,
		strings.Repeat("/b", 10000) + strings.Repeat("/..", 10000) + most,
		"/" + strings.Repeat("b", 5000) + "/.." + most,
		"http://h/" + strings.Repeat("%2e/", 10000) + most[1:],
	} {
		wantPlace(t, target, "h", place.Place{Host: "h", Path: most})
		wantNoPlace(t, target+"a", "h")
	}
	wantPlace(t, most[:511]+"/.", "h", place.Place{Host: "h", Path: most[:511] + "/"})
	wantNoPlace(t, most+"/.", "h")
	wantPlace(t, most+"/..", "h", place.Place{Host: "h", Path: "/"})
	wantPlace(t, most[:510]+"/b/..", "h", place.Place{Host: "h", Path: most[:510] + "/"})
	marks := strings.Repeat("%2F", 170)
	wantPlace(t, "/"+strings.Repeat("%2f", 170)+"a", "h", place.Place{Host: "h", Path: "/" + marks + "a"})
	wantNoPlace(t, "/"+strings.Repeat("%2f", 170)+"aa", "h")
	wantNoPlace(t, "/"+strings.Repeat("%2f", 171), "h")
	wantPlace(t, "/?"+strings.Repeat("%2f", 170)+"aa", "h", place.Place{Host: "h", Path: "/", Query: marks + "aa", Has: true})
	wantNoPlace(t, "/?"+strings.Repeat("%2f", 170)+"aaa", "h")
	wantPlace(t, "/?"+strings.Repeat("%7e", 512), "h", place.Place{Host: "h", Path: "/", Query: strings.Repeat("~", 512), Has: true})
	wantNoPlace(t, "/?"+strings.Repeat("%7e", 513), "h")
	wantNoPlace(t, "/?"+strings.Repeat("/..", 171), "h")
	// Both of them may be as long as they may be.
	wantPlace(t, most+"?"+most, "h", place.Place{Host: "h", Path: most, Query: most, Has: true})
	wantNoPlace(t, most+"?"+most+"a", "h")
	wantNoPlace(t, most+"a?"+most, "h")
	wantNoPlace(t, "/"+strings.Repeat("a", 1<<20), "h")
}

func TestReadOfAnyPieces(t *testing.T) {
	pieces := []string{
		"/", "/", "/", ".", "..", "/..", "/.", "a", "B", "%", "%2e", "%2E", "%2f", "%41", "%7e", "%7E", "%c3%A9", "?", "#", " ", "http://", "HTTP://", "h.X", ":", ":80", ":081", "~", "=", "&", "\xff", "\x7f", "!", "\"", "_",
	}
	rnd := rand.New(rand.NewSource(8))
	for range 300000 {
		target := ""
		switch rnd.Intn(4) {
		case 0, 1:
			target = "/"
		case 2:
			target = "http://a"
		}
		for range rnd.Intn(10) {
			target += pieces[rnd.Intn(len(pieces))]
		}
		host := []string{"h", "H:80", "a.b:081", "", ":", "a b"}[rnd.Intn(6)]
		wantPlain(t, target, host)
	}
}

func TestReadOfAnyBytes(t *testing.T) {
	rnd := rand.New(rand.NewSource(88))
	for range 100000 {
		b := make([]byte, rnd.Intn(12))
		for i := range b {
			if b[i] = byte(rnd.Intn(256)); rnd.Intn(3) > 0 {
				b[i] = "/.%2eE?aA#~"[rnd.Intn(11)]
			}
		}
		target := string(b)
		wantPlain(t, target, "h")
		wantPlain(t, "/"+target, "h")
		wantPlain(t, "http://h"+target, target)
		want, _ := plainHost(target)
		wantHost(t, target, want)
	}
}

// P8.3

func TestShow(t *testing.T) {
	for _, c := range []struct {
		p    place.Place
		want string
	}{
		{place.Place{Host: "h", Path: "/"}, "/"},
		{place.Place{Host: "h", Path: "/a/b"}, "/a/b"},
		{place.Place{Host: "h", Path: "/a", Has: true}, "/a?"},
		{place.Place{Host: "h", Path: "/a", Query: "b?c", Has: true}, "/a?b?c"},
		{place.Place{Host: "h:81", Path: "//", Query: "/../%2F", Has: true}, "//?/../%2F"},
		{place.Place{}, ""},
		{place.Place{Has: true}, "?"},
		{place.Place{Path: "/a", Query: "b"}, "/a"},
		{place.Place{Query: "b", Has: true}, "?b"},
		{place.Place{Host: "a b", Path: "%2f#\xff", Query: "\x00", Has: true}, "%2f#\xff?\x00"},
	} {
		if got := c.p.Show(); got != c.want {
			t.Errorf("Show of %#v: %q, not %q", c.p, got, c.want)
		}
	}
}

func TestShownIsReadAgain(t *testing.T) {
	for _, path := range []string{"/", "//", "///a", "/a/", "/...", "/~", "/%2F%00%FF", "/http://a", "/" + strings.Repeat("%2F", 170)} {
		for _, host := range []string{"h", "h:0", "h:81", "-.", strings.Repeat("a", 40) + ":99999"} {
			for _, p := range []place.Place{
				{Host: host, Path: path},
				{Host: host, Path: path, Has: true},
				{Host: host, Path: path, Query: "?../%2F~", Has: true},
				{Host: host, Path: path, Query: strings.Repeat("q", 512), Has: true},
			} {
				wantPlace(t, p.Show(), p.Host, p)
				wantPlace(t, "http://"+p.Host+p.Show(), "", p)
			}
		}
	}
}
