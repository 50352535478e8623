package control_test

import (
	"math/rand"
	"slices"
	"strconv"
	"strings"
	"testing"

	"pantry/api"
	"pantry/control"
	"pantry/field"
)

// fields are made of names and values, one after the other.
func fields(parts ...string) field.List {
	var l field.List
	for i := 0; i < len(parts); i += 2 {
		l = append(l, field.Field{Name: parts[i], Value: parts[i+1]})
	}
	return l
}

// says is what fields say that say nothing, but for these turns.
func says(turns ...func(c *control.Control)) control.Control {
	c := control.Control{MaxAge: -1, Shared: -1, MinFresh: -1, MaxStale: -1}
	for _, turn := range turns {
		turn(&c)
	}
	return c
}

func noStore(c *control.Control)   { c.NoStore = true }
func noCache(c *control.Control)   { c.NoCache = true }
func isPrivate(c *control.Control) { c.Private = true }
func isPublic(c *control.Control)  { c.Public = true }
func must(c *control.Control)      { c.Must = true }
func only(c *control.Control)      { c.Only = true }

func maxAge(n int) func(c *control.Control)   { return func(c *control.Control) { c.MaxAge = n } }
func shared(n int) func(c *control.Control)   { return func(c *control.Control) { c.Shared = n } }
func minFresh(n int) func(c *control.Control) { return func(c *control.Control) { c.MinFresh = n } }
func maxStale(n int) func(c *control.Control) { return func(c *control.Control) { c.MaxStale = n } }

func want(t *testing.T, l field.List, want control.Control) {
	t.Helper()
	if got := control.Of(l); got != want {
		t.Errorf("Of(%.200q): %+v, not %+v", l, got, want)
	}
}

// wantText holds what a Cache-Control of that value says.
func wantText(t *testing.T, value string, turns ...func(c *control.Control)) {
	t.Helper()
	want(t, fields("Cache-Control", value), says(turns...))
}

func TestNone(t *testing.T) {
	if got := control.None(); got != says() {
		t.Errorf("None: %+v", got)
	}
	want(t, nil, control.None())
	want(t, field.List{}, control.None())
}

func TestExample(t *testing.T) {
	wantText(t, `max-age=60, Private, s-maxage="9"`, maxAge(60), isPrivate, shared(9))
}

func TestEachName(t *testing.T) {
	for _, c := range []struct {
		name string
		turn func(c *control.Control)
	}{
		{"no-store", noStore},
		{"no-cache", noCache},
		{"private", isPrivate},
		{"public", isPublic},
		{"must-revalidate", must},
		{"proxy-revalidate", must},
		{"only-if-cached", only},
	} {
		for _, name := range []string{c.name, strings.ToUpper(c.name), strings.ToUpper(c.name[:1]) + c.name[1:]} {
			for _, argument := range []string{"", "=", "=0", "=x", "==", `="a, b"`, `="`, "= x", "=\tx y", "=max-age=3"} {
				wantText(t, name+argument, c.turn)
			}
			for _, wrong := range []string{name + " ", name + "\t", "x" + name, name + "x", name[1:], name[:len(name)-1], name + ";", "=" + name, "x=" + name, `"` + name + `"`, `"` + name, name + "_"} {
				wantText(t, wrong+"=")
				wantText(t, wrong+"=x")
			}
			// Blanks at an element's ends aren't its own.
			wantText(t, ", \t"+name+" \t,", c.turn)
			wantText(t, name+" x")
			wantText(t, name+"; x")
		}
	}
}

func TestEachNameOfSeconds(t *testing.T) {
	for _, c := range []struct {
		name        string
		turn        func(n int) func(c *control.Control)
		bare, wrong int
	}{
		{"max-age", maxAge, 0, 0},
		{"s-maxage", shared, 0, 0},
		{"min-fresh", minFresh, api.Far, api.Far},
		{"max-stale", maxStale, api.Far, 0},
	} {
		for _, name := range []string{c.name, strings.ToUpper(c.name), strings.ToUpper(c.name[:1]) + c.name[1:]} {
			wantText(t, name, c.turn(c.bare))
			wantText(t, " "+name+"\t,", c.turn(c.bare))
			wantText(t, name+"=5, "+name+"=9", c.turn(pick(c.name, 5, 9)))
			wantText(t, name+"=9, "+name+"=5", c.turn(pick(c.name, 5, 9)))
			wantText(t, name+"=5, "+c.name+"=5", c.turn(5))
			wantText(t, name+`="9" ,,`+name+`=5,`+name+`="5"`, c.turn(pick(c.name, 5, 9)))
			wantText(t, name+"=0, "+name+"=1", c.turn(pick(c.name, 0, 1)))
			wantText(t, name+"=1, "+name+"=0", c.turn(pick(c.name, 0, 1)))
			wantText(t, name+"=5, "+name, c.turn(pick(c.name, 5, c.bare)))
			wantText(t, name+", "+name+"=5", c.turn(pick(c.name, 5, c.bare)))
			wantText(t, name+"=5, "+name+"=x", c.turn(pick(c.name, 5, c.wrong)))
			wantText(t, name+"=x, "+name+"=5", c.turn(pick(c.name, 5, c.wrong)))
			wantSeconds(t, name, c.wrong, c.turn)
			for _, unknown := range []string{name + " ", name + "\t", "x" + name, name + "x", name[1:], name[:len(name)-1], "x=" + name, "=" + name, `"` + name + `"`, `"` + name} {
				wantText(t, unknown+"=5")
				wantText(t, unknown+"=")
			}
			wantText(t, name+" 5")
			wantText(t, name+":5")
		}
	}
}

// pick is the greatest of min-fresh, and the least of the others.
func pick(name string, a int, b int) int {
	if name == "min-fresh" {
		return max(a, b)
	}
	return min(a, b)
}

// wantSeconds holds what arguments of that name say, and that those without
// seconds say that many.
func wantSeconds(t *testing.T, name string, wrong int, turn func(n int) func(c *control.Control)) {
	t.Helper()
	for argument, n := range map[string]int{
		"0": 0, "1": 1, "60": 60, "00012": 12, `"9"`: 9, `"09"`: 9, `"\9"`: 9, `"1\2"`: 12, `"\1\2"`: 12,
		strconv.Itoa(api.Far - 1):             api.Far - 1,
		strconv.Itoa(api.Far):                 api.Far,
		strconv.Itoa(api.Far + 1):             api.Far,
		`"` + strconv.Itoa(api.Far+1) + `"`:   api.Far,
		"18446744073709551616":                api.Far,
		strings.Repeat("9", 5000):             api.Far,
		strings.Repeat("0", 5000) + "7":       7,
		`"` + strings.Repeat("0", 500) + `7"`: 7,
	} {
		wantText(t, name+"="+argument, turn(n))
	}
	for _, argument := range []string{
		"", `""`, "x", "-1", "+1", "1.5", "1x", "x1", "0x10", "1_0", "1e3", "=5", "5=", "5=6", "1 2", " 5", "\t5", `"5`, `5"`, `"5"x`, `"5""6"`,
		`" 5"`, `"5 "`, `"-5"`, `"x"`, `"5, 6"`, `"\\5"`, `"\"5\""`, `"5\`, `"\`, `'5'`, "٥", "５", "5\x00", "\x80",
	} {
		wantText(t, name+"="+argument, turn(wrong))
	}
}

func TestUnknownSayNothing(t *testing.T) {
	for _, value := range []string{
		"", " ", ",", ",, ,\t,", "=", "==", "=5", "foo", "foo=1", `foo="no-store, max-age=3"`, `"no-store, private"`, `"max-age=5`,
		"nostore", "no_store", "no-store no-cache", "no-store;private", "maxage=5", "max-age =5", "max-age\t=5", "max_age=5", "max-stale =", "s-max-age=5",
		"shared=5", "stale-while-revalidate=5", "immutable", "no-transform", "é", "ﬁ", "no-\u017ftore", "pr\u0130vate", "publ\u0130c", "m\u0130n-fresh=5", "max-age\x00=5", "\x00", "\xff\xfe",
	} {
		wantText(t, value)
		wantText(t, "public, "+value, isPublic)
		wantText(t, strings.Repeat("x=y,", 500)+value)
	}
}

func TestSeveralFields(t *testing.T) {
	want(t, fields("cache-control", "max-age=9", "Cache-Control", "private"), says(maxAge(9), isPrivate))
	want(t, fields("CACHE-CONTROL", "max-age=9", "x", "no-store", "cache-Control", "max-age=7, s-maxage=8"), says(maxAge(7), shared(8)))
	want(t, fields("Cache-Control", "", "Cache-Control", "no-cache"), says(noCache))
	want(t, fields("Cache-Control", "min-fresh=9", "Cache-Control", "", "Cache-Control", "min-fresh=7"), says(minFresh(9)))
	want(t, fields("x", "no-store", "Vary", "private", "Cache-Controls", "public", "Cache_Control", "no-cache", "", "max-age=1"), says())

	// The elements are those of one text, whose quotes may go on.
	want(t, fields("Cache-Control", `private="x`, "Cache-Control", `no-store", public`), says(isPrivate, isPublic))
	want(t, fields("Cache-Control", `private="x`, "Cache-Control", `no-store, public`), says(isPrivate))
	want(t, fields("Cache-Control", `no-cache="a, no-store", max-age=4`), says(noCache, maxAge(4)))
	want(t, fields("Cache-Control", `no-cache="a\", no-store", max-age=4`), says(noCache, maxAge(4)))
	want(t, fields("Cache-Control", "no-store,NO-CACHE,Private,public,must-revalidate,only-if-cached,max-age=1,s-maxage=2,min-fresh=3,max-stale=4"),
		control.Control{NoStore: true, NoCache: true, Private: true, Public: true, Must: true, Only: true, MaxAge: 1, Shared: 2, MinFresh: 3, MaxStale: 4})
}

func TestPragma(t *testing.T) {
	for _, value := range []string{"no-cache", "No-Cache", " no-cache\t", "x, NO-CACHE", "no-cache,y", ",no-cache,", `"a,b", no-cache`} {
		for _, name := range []string{"Pragma", "pragma", "PRAGMA"} {
			want(t, fields(name, value), says(noCache))
			want(t, fields("a", "b", name, "x", "pragma", value), says(noCache))
			for _, l := range []field.List{
				fields("Cache-Control", "", name, value),
				fields(name, value, "cache-control", ""),
				fields(name, value, "CACHE-CONTROL", ",", "x", "y"),
				fields(name, value, "Cache-Control", "foo"),
			} {
				want(t, l, says())
			}
			want(t, fields(name, value, "Cache-Control", "max-age=3"), says(maxAge(3)))
			want(t, fields(name, value, "Cache-Control", "no-cache"), says(noCache))
			want(t, fields(name+"s", value), says())
		}
	}
	for _, value := range []string{
		"", ",", "x", "no-cache=", "no-cache=x", `no-cache="x"`, "no-cache x", `"no-cache"`, `"x, no-cache"`, "no-cach", "no-caches", "=no-cache",
		"no-store", "private", "public", "must-revalidate", "only-if-cached", "max-age=3", "s-maxage=3", "min-fresh=3", "max-stale",
	} {
		want(t, fields("Pragma", value), says())
	}
}

// known are directives, and what each says alone.
func known() map[string]control.Control {
	return map[string]control.Control{
		"no-store": says(noStore), `no-store="a, b"`: says(noStore), "no-cache": says(noCache), "no-cache=": says(noCache),
		"private": says(isPrivate), `private="max-age=1"`: says(isPrivate), "public": says(isPublic),
		"must-revalidate": says(must), "proxy-revalidate": says(must), "only-if-cached": says(only),
		"max-age=0": says(maxAge(0)), "max-age=3": says(maxAge(3)), `max-age="70"`: says(maxAge(70)), "max-age": says(maxAge(0)), "max-age=3000000000": says(maxAge(api.Far)),
		"s-maxage=1": says(shared(1)), "s-maxage=20": says(shared(20)), "s-maxage=x": says(shared(0)), "s-maxage=2147483648": says(shared(api.Far)),
		"min-fresh=0": says(minFresh(0)), "min-fresh=5": says(minFresh(5)), "min-fresh=6": says(minFresh(6)), "min-fresh": says(minFresh(api.Far)),
		"max-stale": says(maxStale(api.Far)), "max-stale=4": says(maxStale(4)), "max-stale=80": says(maxStale(80)), `max-stale=""`: says(maxStale(0)),
		"foo": says(), `foo="no-store, private"`: says(), "max-age =9": says(), "=": says(),
	}
}

// together is what is said by two lists of directives.
func together(a control.Control, b control.Control) control.Control {
	return control.Control{
		NoStore: a.NoStore || b.NoStore, NoCache: a.NoCache || b.NoCache, Private: a.Private || b.Private,
		Public: a.Public || b.Public, Must: a.Must || b.Must, Only: a.Only || b.Only,
		MaxAge: leastSaid(a.MaxAge, b.MaxAge), Shared: leastSaid(a.Shared, b.Shared),
		MinFresh: max(a.MinFresh, b.MinFresh), MaxStale: leastSaid(a.MaxStale, b.MaxStale),
	}
}

func leastSaid(a int, b int) int {
	// What isn't said is -1, which is the greatest of unsigned numbers.
	return int(min(uint64(a), uint64(b)))
}

// dressed is a text with some of its letters great, but for quoted ones.
func dressed(r *rand.Rand, s string) string {
	b := []byte(s)
	for i, c := range b {
		if c == '"' {
			break
		}
		if r.Intn(3) == 0 {
			b[i] = strings.ToUpper(string(c))[0]
		}
	}
	return string(b)
}

// TestManyListsOfDirectives lays known directives in any order into any
// number of fields.
func TestManyListsOfDirectives(t *testing.T) {
	table := known()
	var texts []string
	for s := range table {
		texts = append(texts, s)
	}
	slices.Sort(texts)
	names := []string{"Cache-Control", "cache-control", "CACHE-CONTROL"}
	gaps := []string{",", ", ", " ,", ",\t,", " , , "}
	r := rand.New(rand.NewSource(4))
	for range 30000 {
		var l field.List
		expected := says()
		for range r.Intn(4) {
			value := ""
			for range r.Intn(5) {
				s := texts[r.Intn(len(texts))]
				value += dressed(r, s) + gaps[r.Intn(len(gaps))]
				expected = together(expected, table[s])
			}
			l = append(l, field.Field{Name: names[r.Intn(len(names))], Value: value})
			if r.Intn(3) == 0 {
				l = append(l, fields("X-Control", "no-store, max-age=0, min-fresh, max-stale", "Pragma", "private")...)
			}
		}
		if got := control.Of(l); got != expected {
			t.Fatalf("Of(%q): %+v, not %+v", l, got, expected)
		}
	}
}

// TestAnyBytes holds that wrong fields end, and say only what may be said.
func TestAnyBytes(t *testing.T) {
	const signs = "\"\\=, \t-aegmnostx059\x00\xff"
	r := rand.New(rand.NewSource(44))
	for range 30000 {
		b := make([]byte, r.Intn(40))
		for i := range b {
			b[i] = signs[r.Intn(len(signs))]
		}
		l := fields("cache-control", string(b), "Cache-Control", "max-age="+string(b), "Pragma", string(b))
		c := control.Of(l)
		for _, n := range []int{c.MaxAge, c.Shared, c.MinFresh, c.MaxStale} {
			if n < -1 || n > api.Far {
				t.Fatalf("Of(%q): %+v", l, c)
			}
		}
	}
}

func TestArgumentsStay(t *testing.T) {
	room := fields("Cache-Control", "Max-Age=9, x", "a", "b", "cache-control", "PRIVATE", "Pragma", "No-Cache", "Cache-Control", "no-store")
	before := slices.Clone(room)
	l := room[:4]
	first := control.Of(l)
	if second := control.Of(l); first != second || first != says(maxAge(9), isPrivate) {
		t.Errorf("Of(%q): %+v, then %+v", l, first, second)
	}
	if !slices.Equal(room, before) {
		t.Errorf("an argument was changed: %q", room)
	}
}
