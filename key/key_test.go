package key_test

import (
	"fmt"
	"math/rand"
	"slices"
	"strconv"
	"strings"
	"testing"

	"pantry/api"
	"pantry/conf"
	"pantry/field"
	"pantry/key"
	"pantry/place"
)

// fields are made of names and values, one after the other.
func fields(parts ...string) field.List {
	var l field.List
	for i := 0; i < len(parts); i += 2 {
		l = append(l, field.Field{Name: parts[i], Value: parts[i+1]})
	}
	return l
}

// site is a site with these heads, whose keys have the query or not.
func site(query bool, heads ...string) conf.Site {
	return conf.Site{Host: "s", Origin: 1, Max: 3600, Keep: true, Query: query, Heads: heads}
}

// at is a place without a query.
func at(host, path string) place.Place { return place.Place{Host: host, Path: path} }

// asked is a place with a query.
func asked(host, path, query string) place.Place {
	return place.Place{Host: host, Path: path, Query: query, Has: true}
}

func wantFirst(t *testing.T, s conf.Site, p place.Place, l field.List, want string) {
	t.Helper()
	if got := key.First(s, p, l); got != want {
		t.Errorf("First(%.300q, %#.300v, %.300q): %.300q, not %.300q", s.Heads, p, l, got, want)
	}
}

func wantNames(t *testing.T, l field.List, star bool, want ...string) {
	t.Helper()
	if got, s := key.Names(l); s != star || !slices.Equal(got, want) {
		t.Errorf("Names(%.300q): %.300q, %t, not %.300q, %t", l, got, s, want, star)
	}
}

func wantSecond(t *testing.T, l field.List, want string, names ...string) {
	t.Helper()
	if got := key.Second(l, names...); got != want {
		t.Errorf("Second(%.300q, %.300q): %.300q, not %.300q", l, names, got, want)
	}
}

func TestFirstOfTheExample(t *testing.T) {
	c, fault := conf.Read("site a.b { ttl 5 60; key path header accept; }")
	p, e := place.Read("/x", "a.b")
	if fault != (conf.Fault{}) || e != api.OK {
		t.Fatal(fault, e)
	}
	s, _ := c.Find("a.b")
	wantFirst(t, s, p, nil, "3:a.b2:/x-")
	wantFirst(t, s, p, fields("Host", "a.b"), "3:a.b2:/x-")
	wantFirst(t, s, p, fields("Host", "a.b", "Accept", "text/*"), "3:a.b2:/x=6:text/*")
}

func TestFirst(t *testing.T) {
	l := fields("Accept", "x", "e", "", "accept", "y", "g", "3:a", "H", "", "h", "")
	for _, c := range []struct {
		s    conf.Site
		p    place.Place
		want string
	}{
		{site(false), at("a", "/"), "1:a1:/"},
		{site(false), asked("a", "/", "q"), "1:a1:/"},
		{site(false), asked("a", "/", ""), "1:a1:/"},
		{site(true), at("a", "/"), "1:a1:/!"},
		{site(true), asked("a", "/", "q"), "1:a1:/?1:q"},
		{site(true), asked("a", "/", ""), "1:a1:/?0:"},
		{site(true), place.Place{Host: "a", Path: "/", Query: "q"}, "1:a1:/!"},
		{site(false), at("a.b:8080", "/x/y%2F"), "8:a.b:80807:/x/y%2F"},
		{site(true), asked("a", "/b?c", "d?e!f"), "1:a4:/b?c?5:d?e!f"},

		{site(false, "accept"), at("a", "/"), "1:a1:/=4:x, y"},
		{site(false, "b"), at("a", "/"), "1:a1:/-"},
		{site(false, "e"), at("a", "/"), "1:a1:/=0:"},
		{site(false, "h"), at("a", "/"), "1:a1:/=2:, "},
		{site(false, "accept", "b", "e", "g"), at("a", "/"), "1:a1:/=4:x, y-=0:=3:3:a"},
		{site(true, "accept", "b", "e", "g"), at("a", "/"), "1:a1:/!=4:x, y-=0:=3:3:a"},
		{site(true, "accept", "b", "e", "g"), asked("a", "/", "q=1"), "1:a1:/?3:q=1=4:x, y-=0:=3:3:a"},
		{site(true, "b", "c", "d", "f"), asked("a", "/", ""), "1:a1:/?0:----"},
	} {
		wantFirst(t, c.s, c.p, l, c.want)
	}
}

// TestFirstOfAnything holds that the key is told of what isn't right too.
func TestFirstOfAnything(t *testing.T) {
	wantFirst(t, conf.Site{}, place.Place{}, nil, "0:0:")
	wantFirst(t, conf.Site{Query: true}, place.Place{}, nil, "0:0:!")
	wantFirst(t, conf.Site{Query: true}, place.Place{Has: true}, nil, "0:0:?0:")
	wantFirst(t, conf.Site{Heads: []string{""}}, place.Place{}, nil, "0:0:-")
	wantFirst(t, conf.Site{Heads: []string{""}}, place.Place{}, fields("", " "), "0:0:=1: ")
	wantFirst(t, site(true), asked("A", "x/..", "#"), nil, "1:A4:x/..?1:#")
	wantFirst(t, site(false, "b", "A", "b", "a", "c"), at("a", "/"), fields("A", "1", "B", "2"), "1:a1:/=1:2=1:1=1:2=1:1-")
	wantFirst(t, site(false, "é", "\xff"), at("é", "\xff\x00\n"), fields("É", "1", "é", "\xfe", "\xff", "é"), "2:é3:\xff\x00\n=1:\xfe=2:é")
	heads := slices.Repeat([]string{"a", "b"}, 1000)
	wantFirst(t, site(false, heads...), at("a", "/"), fields("b", "x"), "1:a1:/"+strings.Repeat("-=1:x", 1000))
}

// TestFirstOfOtherRules holds that the site's Query and Heads alone count.
func TestFirstOfOtherRules(t *testing.T) {
	p, l := asked("a", "/x", "q"), fields("b", "1")
	for _, host := range []string{"", "a", "s", "another", "NONE"} {
		for _, n := range []int{-1, 0, 1, 9, api.Far} {
			for _, keep := range []bool{false, true} {
				s := conf.Site{Host: host, Origin: n, Min: n, Max: n, Keep: keep}
				wantFirst(t, s, p, l, "1:a2:/x")
				s.Query, s.Heads = true, []string{"b", "c"}
				wantFirst(t, s, p, l, "1:a2:/x?1:q=1:1-")
			}
		}
	}
}

// TestMarksOfEachLength holds that the mark has the number of bytes, in as
// many digits as it has.
func TestMarksOfEachLength(t *testing.T) {
	lengths := []int{0, 1, 9, 10, 11, 99, 100, 101, 255, 256, 511, 512, 999, 1000, 1024, 9999, 10000, 65536, 1000000}
	for n := range 300 {
		lengths = append(lengths, n)
	}
	for _, n := range lengths {
		for _, one := range []string{"x", "\x00", "\xff", "9", ":"} {
			text := strings.Repeat(one, n)
			mark := fmt.Sprintf("%d:%s", n, text)
			wantFirst(t, site(false), at(text, "/"), nil, mark+"1:/")
			wantFirst(t, site(false), at("a", text), nil, "1:a"+mark)
			wantFirst(t, site(true), asked("a", "/", text), nil, "1:a1:/?"+mark)
			wantFirst(t, site(false, "b"), at("a", "/"), fields("B", text), "1:a1:/="+mark)
			wantSecond(t, fields("a", text), "="+mark, "a")
		}
	}
	wantFirst(t, site(true, "é"), asked("é", "/é", "éé"), fields("é", "€"), "2:é3:/é?4:éé=3:€")
}

func TestMarksOfEachByte(t *testing.T) {
	for c := range 256 {
		s := string([]byte{byte(c)})
		wantFirst(t, site(true, "a"), asked(s, s, s), fields("A", s), "1:"+s+"1:"+s+"?1:"+s+"=1:"+s)
		wantSecond(t, fields("a", s), "=1:"+s, "a")
	}
}

// parts are what a key is promised to tell of a place by a site: two have the
// same key just if they have the same parts.
func parts(s conf.Site, p place.Place, l field.List) string {
	all := []string{p.Host, p.Path}
	if s.Query {
		if p.Has {
			all = append(all, "query", p.Query)
		} else {
			all = append(all, "none")
		}
	}
	for _, name := range s.Heads {
		if value, ok := l.Get(name); ok {
			all = append(all, "value", value)
		} else {
			all = append(all, "none")
		}
	}
	return fmt.Sprintf("%q", all)
}

// TestFirstIsTheSameJustOfTheSame holds keys against each other whose texts
// look like marks.
func TestFirstIsTheSameJustOfTheSame(t *testing.T) {
	texts := []string{"", "a", "1:a", "0:", "1:", ":", "-", "!", "?", "?0:", "=0:", "=1:-", "!-", "a1:a", "--"}
	values := []field.List{nil, fields("x", ""), fields("x", "", "x", ""), fields("X", "-"), fields("y", "=0:"), fields("x", "0:", "y", "-"), fields("x", "a", "x", "b"), fields("x", "a, b"), fields("x", "", "y", "")}
	for _, s := range []conf.Site{site(false), site(true), site(false, "x"), site(true, "x"), site(false, "x", "y"), site(true, "x", "y")} {
		seen := map[string]string{}
		for _, host := range texts {
			for _, path := range texts {
				for _, query := range texts {
					for _, has := range []bool{false, true} {
						for _, l := range values {
							p := place.Place{Host: host, Path: path, Query: query, Has: has}
							k, want := key.First(s, p, l), parts(s, p, l)
							if old, ok := seen[k]; ok && old != want {
								t.Fatalf("%s and %s have the key %q", old, want, k)
							}
							seen[k] = want
						}
					}
				}
			}
		}
		keys := map[string]string{}
		for k, want := range seen {
			if old, ok := keys[want]; ok {
				t.Fatalf("%s has the keys %q and %q", want, old, k)
			}
			keys[want] = k
		}
	}
}

// TestFirstOfPlacesThatAreRead holds that what asks for the same has the same
// key, and what doesn't hasn't.
func TestFirstOfPlacesThatAreRead(t *testing.T) {
	first := func(query bool, target, host string, l field.List) string {
		p, e := place.Read(target, host)
		if e != api.OK {
			t.Fatal(target, host, e)
		}
		return key.First(site(query, "accept"), p, l)
	}
	base := first(true, "/a/c?x=1", "h", fields("Accept", "t"))
	for _, same := range []string{
		first(true, "/a/./b/../c?x=1", "H:80", fields("ACCEPT", "t")),
		first(true, "http://h/%61/c?%78=1", "other", fields("b", "z", "accept", "t")),
	} {
		if same != base {
			t.Errorf("%q, not %q", same, base)
		}
	}
	for _, other := range []string{
		first(true, "/a/c?x=2", "h", fields("Accept", "t")),
		first(true, "/a/c?", "h", fields("Accept", "t")),
		first(true, "/a/c", "h", fields("Accept", "t")),
		first(true, "/a/C?x=1", "h", fields("Accept", "t")),
		first(true, "/a/c/?x=1", "h", fields("Accept", "t")),
		first(true, "/a/c?x=1", "h:81", fields("Accept", "t")),
		first(true, "/a/c?x=1", "i", fields("Accept", "t")),
		first(true, "/a/c?x=1", "h", fields("Accept", "T")),
		first(true, "/a/c?x=1", "h", fields("Accept", "t", "accept", "t")),
		first(true, "/a/c?x=1", "h", nil),
		first(false, "/a/c?x=1", "h", fields("Accept", "t")),
	} {
		if other == base {
			t.Errorf("%q of another one", other)
		}
	}
	if a, b := first(false, "/a/c?x=1", "h", nil), first(false, "/a/c", "h", nil); a != b {
		t.Errorf("%q and %q by a site without Query", a, b)
	}
	if a, b := first(true, "/a/c?", "h", nil), first(true, "/a/c", "h", nil); a == b {
		t.Errorf("%q of an empty query and of none", a)
	}
}

// TestFirstBeginsWithHostAndPath holds that all keys of a place, by whatever
// site, begin with the same text, and those of no other place.
func TestFirstBeginsWithHostAndPath(t *testing.T) {
	prefix := key.First(site(false), at("a", "/x"), nil)
	for _, s := range []conf.Site{site(false), site(true), site(true, "b"), site(false, "b", "c")} {
		for _, query := range []string{"", "q", "3:a"} {
			if k := key.First(s, asked("a", "/x", query), fields("b", "1")); !strings.HasPrefix(k, prefix) {
				t.Errorf("%q doesn't begin with %q", k, prefix)
			}
			for _, path := range []string{"/", "/xx", "/x/", "/x?q", ""} {
				if k := key.First(s, asked("a", path, query), fields("b", "1")); strings.HasPrefix(k, prefix) {
					t.Errorf("%q begins with %q", k, prefix)
				}
			}
		}
	}
}

func TestNames(t *testing.T) {
	for _, c := range []struct {
		l    field.List
		want []string
	}{
		{fields("Vary", "a"), []string{"a"}},
		{fields("VARY", "Accept"), []string{"accept"}},
		{fields("vary", "b, a"), []string{"a", "b"}},
		{fields("vary", "Accept-Language,accept-ENCODING , accept"), []string{"accept", "accept-encoding", "accept-language"}},
		{fields("vary", "a, A, a,a"), []string{"a"}},
		{fields("vary", "B, a, b, A, c, C, B"), []string{"a", "b", "c"}},
		{fields("vary", "b", "x", "q", "Vary", "A, c"), []string{"a", "b", "c"}},
		{fields("vary", "b", "vary", "", "vary", "B"), []string{"b"}},
		{fields("vary", ",, ,a,\t,"), []string{"a"}},
		{fields("vary", "b", "vary-by", "c", "avary", "d", "var", "e"), []string{"b"}},

		// Rising byte by byte, of what is small already.
		{fields("vary", "Z, a"), []string{"a", "z"}},
		{fields("vary", "_, Z, -, ~, 1, ^, A"), []string{"-", "1", "^", "_", "a", "z", "~"}},
		{fields("vary", "a-b, ab, a, a.b"), []string{"a", "a-b", "a.b", "ab"}},
		{fields("vary", "10, 9, 1"), []string{"1", "10", "9"}},

		// Elements needn't be tokens; letters beyond A to Z stay.
		{fields("vary", `"B,c", a`), []string{`"b,c"`, "a"}},
		{fields("vary", `"B`, "vary", `c", d`), []string{`"b, c"`, "d"}},
		{fields("vary", "a B, a=1"), []string{"a b", "a=1"}},
		{fields("vary", "É, \u212a, \xff, é"), []string{"É", "é", "\u212a", "\xff"}},
		{fields("vary", "\x00, \x7f"), []string{"\x00", "\x7f"}},
	} {
		wantNames(t, c.l, false, c.want...)
	}
	for _, l := range []field.List{nil, {}, fields("vary", ""), fields("vary", " ,\t,,"), fields("a", "b"), fields("", "a"), fields("vary ", "a"), fields("Accept", "Vary")} {
		wantNames(t, l, false)
	}
}

// TestNamesWithAStar holds that a star is an element by itself, and none of
// the names, which are told beside it.
func TestNamesWithAStar(t *testing.T) {
	wantNames(t, fields("Vary", "*"), true)
	wantNames(t, fields("VARY", " , *\t,"), true)
	wantNames(t, fields("vary", "*, *", "vary", "*"), true)
	wantNames(t, fields("vary", "b, *, A"), true, "a", "b")
	wantNames(t, fields("vary", "*, b, a"), true, "a", "b")
	wantNames(t, fields("vary", "b, a, *"), true, "a", "b")
	wantNames(t, fields("vary", "b", "vary", "*", "Vary", "a, B"), true, "a", "b")
	wantNames(t, fields("vary", "!, *, +"), true, "!", "+")
	wantNames(t, fields("vary", `"*"`), false, `"*"`)
	wantNames(t, fields("vary", `"a, *, b"`), false, `"a, *, b"`)
	wantNames(t, fields("vary", "**, a*, *a, * *"), false, "* *", "**", "*a", "a*")
	wantNames(t, fields("a", "*", "vary", "b"), false, "b")
}

func TestNamesOfMany(t *testing.T) {
	var values, want []string
	for i := range 1000 {
		values = append(values, "N"+strconv.Itoa(i*7%1000), "n"+strconv.Itoa(i))
		want = append(want, "n"+strconv.Itoa(i))
	}
	slices.Sort(want)
	wantNames(t, fields("vary", strings.Join(values, ",")), false, want...)
	var l field.List
	for _, v := range values {
		l = append(l, field.Field{Name: "Vary", Value: v})
	}
	wantNames(t, l, false, want...)
	wantNames(t, append(l, fields("vary", "*")...), true, want...)
}

func TestSecond(t *testing.T) {
	l := fields("Accept", "x", "b", "z", "accept", "y", "e", "", "E2", "", "e2", "", "", "none", "k", "-=1:a")
	for _, c := range []struct {
		names []string
		want  string
	}{
		{nil, ""},
		{[]string{}, ""},
		{[]string{"b"}, "=1:z"},
		{[]string{"B"}, "=1:z"},
		{[]string{"accept"}, "=4:x, y"},
		{[]string{"ACCEPT"}, "=4:x, y"},
		{[]string{"e"}, "=0:"},
		{[]string{"e2"}, "=2:, "},
		{[]string{"f"}, "-"},
		{[]string{""}, "=4:none"},
		{[]string{"k"}, "=5:-=1:a"},
		{[]string{"*"}, "-"},
		{[]string{"accept "}, "-"},
		{[]string{"a,b"}, "-"},

		// In the order in which they are handed in, each as often as it is there.
		{[]string{"accept", "b"}, "=4:x, y=1:z"},
		{[]string{"b", "accept"}, "=1:z=4:x, y"},
		{[]string{"b", "B", "b"}, "=1:z=1:z=1:z"},
		{[]string{"f", "e", "g", "b", "h"}, "-=0:-=1:z-"},
		{[]string{"e", "f"}, "=0:-"},
		{[]string{"f", "e"}, "-=0:"},
		{[]string{"", "*", "accept"}, "=4:none-=4:x, y"},
	} {
		wantSecond(t, l, c.want, c.names...)
	}
	wantSecond(t, nil, "")
	wantSecond(t, nil, "--", "a", "b")
	wantSecond(t, field.List{}, "-", "")
	wantSecond(t, fields("é", "1"), "=1:1-", "é", "É")
	wantSecond(t, fields("k", "1"), "-", "\u212a")
	wantSecond(t, fields("a", "1"), strings.Repeat("=1:1-", 10000), slices.Repeat([]string{"A", "b"}, 10000)...)
}

// TestSecondOfNames holds that requests fit a response just if they are alike
// in what it varies by.
func TestSecondOfNames(t *testing.T) {
	names, _ := key.Names(fields("Vary", "Accept-Language, Accept"))
	wantSecond(t, fields("ACCEPT", "x", "accept-language", "en"), "=1:x=2:en", names...)
	base := key.Second(fields("Accept", "x", "Accept-Language", "en"), names...)
	for _, l := range []field.List{fields("accept-language", "en", "b", "q", "ACCEPT", "x"), fields("accept", "x", "accept-language", "en", "vary", "*")} {
		wantSecond(t, l, base, names...)
	}
	for _, l := range []field.List{nil, fields("accept", "x"), fields("accept-language", "en"), fields("accept", "en", "accept-language", "x"), fields("accept", "x", "accept-language", "EN"), fields("accept", "x", "accept-language", ""), fields("accept", "x=2:en")} {
		if key.Second(l, names...) == base {
			t.Errorf("%q has the second key %q", l, base)
		}
	}
}

// A plain reading of the chapter: keys are read back, sign by sign.

// unmark reads the mark of a text at the beginning of s, and tells the rest.
func unmark(s string) (text, rest string, ok bool) {
	digits, rest, ok := strings.Cut(s, ":")
	n, err := strconv.Atoi(digits)
	if !ok || err != nil || strconv.Itoa(n) != digits || n < 0 || n > len(rest) {
		return "", "", false
	}
	return rest[:n], rest[n:], true
}

// unmarkField reads the mark of a field.
func unmarkField(s string) (value string, has bool, rest string, ok bool) {
	if rest, ok := strings.CutPrefix(s, "-"); ok {
		return "", false, rest, true
	}
	s, ok = strings.CutPrefix(s, "=")
	if !ok {
		return "", false, "", false
	}
	value, rest, ok = unmark(s)
	return value, true, rest, ok
}

// wantMarked holds that a text is the marks of these names' fields.
func wantMarked(t *testing.T, text string, l field.List, names []string) {
	t.Helper()
	rest := text
	for _, name := range names {
		var all []string
		for _, f := range l {
			if strings.ToLower(f.Name) == strings.ToLower(name) {
				all = append(all, f.Value)
			}
		}
		value, has, behind, ok := unmarkField(rest)
		if !ok || has != (len(all) > 0) || value != strings.Join(all, ", ") {
			t.Fatalf("%q isn't of %q, %q: at %q", text, l, names, rest)
		}
		rest = behind
	}
	if rest != "" {
		t.Fatalf("%q isn't of %q, %q: %q is left", text, l, names, rest)
	}
}

// wantRead holds that a key is read back as what it was made of.
func wantRead(t *testing.T, s conf.Site, p place.Place, l field.List) {
	t.Helper()
	text := key.First(s, p, l)
	host, rest, ok := unmark(text)
	path, rest, ok2 := unmark(rest)
	if !ok || !ok2 || host != p.Host || path != p.Path {
		t.Fatalf("%q isn't of %#v", text, p)
	}
	if s.Query && !p.Has {
		rest, ok = strings.CutPrefix(rest, "!")
	} else if s.Query {
		var query string
		rest, ok = strings.CutPrefix(rest, "?")
		query, rest, ok2 = unmark(rest)
		ok = ok && ok2 && query == p.Query
	}
	if !ok {
		t.Fatalf("%q isn't of %#v", text, p)
	}
	wantMarked(t, rest, l, s.Heads)
}

// plainNames are the names by sorting nothing: each name is the least one that
// is above the last one.
func plainNames(l field.List) (names []string, star bool) {
	elements := l.Elements("VARY")
	for i, e := range elements {
		star = star || e == "*"
		elements[i] = strings.ToLower(e)
	}
	for {
		least, found := "", false
		for _, e := range elements {
			above := len(names) == 0 || e > names[len(names)-1]
			if e != "*" && above && (!found || e < least) {
				least, found = e, true
			}
		}
		if !found {
			return names, star
		}
		names = append(names, least)
	}
}

// anyText is a text of signs that are told to mean something somewhere.
func anyText(r *rand.Rand) string {
	const signs = "aAbB019:-=!?*,\"\\ \t\x00"
	b := make([]byte, r.Intn(7))
	for i := range b {
		b[i] = signs[r.Intn(len(signs))]
	}
	return string(b)
}

func anyName(r *rand.Rand) string {
	names := []string{"a", "A", "b", "B", "vary", "Vary", "", "c", "*"}
	return names[r.Intn(len(names))]
}

func anyFields(r *rand.Rand) field.List {
	l := make(field.List, r.Intn(6))
	for i := range l {
		l[i] = field.Field{Name: anyName(r), Value: anyText(r)}
	}
	return l
}

func anyNames(r *rand.Rand) []string {
	names := make([]string, r.Intn(5))
	for i := range names {
		names[i] = anyName(r)
	}
	return names
}

func TestAgainstAPlainReading(t *testing.T) {
	r := rand.New(rand.NewSource(11))
	for range 30000 {
		l, names := anyFields(r), anyNames(r)
		p := place.Place{Host: anyText(r), Path: anyText(r), Query: anyText(r), Has: r.Intn(2) == 0}
		wantRead(t, site(r.Intn(2) == 0, names...), p, l)
		wantMarked(t, key.Second(l, names...), l, names)
		vary, star := plainNames(l)
		wantNames(t, l, star, vary...)
	}
}

// roomy is a list with spare room, where marks stand.
func roomy[T any](l []T, mark T) []T {
	return append(slices.Clone(l), mark, mark, mark)[:len(l)]
}

func spoil[T any](l []T, with T) {
	l = l[:cap(l)]
	for i := range l {
		l[i] = with
	}
}

// TestArgumentsStay holds that nothing that is handed in is changed, its spare
// room neither.
func TestArgumentsStay(t *testing.T) {
	l := field.List(roomy(fields("Vary", "B, a", "b", "1", "vary", "A, *"), field.Field{Name: "mark"}))
	names := roomy([]string{"B", "a", "b", "Vary"}, "mark")
	room, namesRoom := slices.Clone(l[:cap(l)]), slices.Clone(names[:cap(names)])
	for range 2 {
		wantFirst(t, site(true, names...), asked("h", "/", "q"), l, "1:h1:/?1:q=1:1-=1:1=10:B, a, A, *")
		wantSecond(t, l, "=1:1-=1:1=10:B, a, A, *", names...)
		wantSecond(t, l, "-=1:1", names[1:3]...)
		wantNames(t, l, true, "a", "b")
		if !slices.Equal(l[:cap(l)], room) || !slices.Equal(names[:cap(names)], namesRoom) {
			t.Fatal(l[:cap(l)], names[:cap(names)])
		}
	}
}

// TestAnswersStay holds that what is told is new, and that nothing that is
// handed in is kept.
func TestAnswersStay(t *testing.T) {
	l := fields("vary", "c, b, a, B", "a", "1")
	want := []string{"a", "b", "c"}
	first, _ := key.Names(l)
	second, _ := key.Names(l)
	heads := []string{"a", "b"}
	k, s := key.First(site(false, heads...), at("h", "/"), l), key.Second(l, heads...)
	spoil(first, "spoilt")
	if !slices.Equal(second, want) {
		t.Errorf("two answers share memory: %q", second)
	}
	wantNames(t, l, false, want...)
	spoil(l, field.Field{Name: "vary", Value: "spoilt"})
	spoil(heads, "spoilt")
	if !slices.Equal(second, want) || k != "1:h1:/=1:1-" || s != "=1:1-" {
		t.Errorf("an answer shares memory with an argument: %q, %q, %q", second, k, s)
	}
	wantNames(t, l, false, "spoilt")
	wantSecond(t, l, "--", heads...)
}
