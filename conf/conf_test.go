package conf_test

import (
	"math"
	"math/rand"
	"regexp"
	"slices"
	"strconv"
	"strings"
	"testing"

	"pantry/api"
	"pantry/conf"
)

const (
	far        = 1 << 31
	small      = "abcdefghijklmnopqrstuvwxyz"
	digits     = "0123456789"
	tokenSigns = small + digits + "!#$%&'*+-.^_|\x60\x7e" // those that Heads may have
)

// plain is the site of a host by what isn't said.
func plain(host string) conf.Site {
	return conf.Site{Host: host, Origin: 1, Max: 3600, Query: true, Keep: true}
}

// with is a plain site that was changed.
func with(change func(s *conf.Site)) conf.Site {
	s := plain("a.b")
	change(&s)
	return s
}

func withHeads(names ...string) conf.Site {
	return with(func(s *conf.Site) { s.Heads = names })
}

func config(sites ...conf.Site) conf.Config { return conf.Config{Sites: sites} }

// hosts is plain sites of so many hosts.
func hosts(n int) []conf.Site {
	var sites []conf.Site
	for i := range n {
		sites = append(sites, plain("h"+strconv.Itoa(i)))
	}
	return sites
}

// of is a text of one byte.
func of(c int) string { return string([]byte{byte(c)}) }

func sameSite(a, b conf.Site) bool {
	return a.Host == b.Host && a.Origin == b.Origin && a.Min == b.Min && a.Max == b.Max && a.Query == b.Query && a.Keep == b.Keep && slices.Equal(a.Heads, b.Heads)
}

func sameConfig(a, b conf.Config) bool { return slices.EqualFunc(a.Sites, b.Sites, sameSite) }

// wantSite holds whether a site is right, and a config that has it.
func wantSite(t *testing.T, s conf.Site, want bool) {
	t.Helper()
	if s.Right() != want {
		t.Fatalf("Right of %.300q is not %t", []any{s.Host, s.Origin, s.Min, s.Max, s.Heads}, want)
	}
	wantConfig(t, config(s), want)
}

// wantConfig holds whether a config is right, what it is then shown as, and
// that this is read as it is.
func wantConfig(t *testing.T, c conf.Config, want bool) {
	t.Helper()
	if c.Right() != want {
		t.Fatalf("Right of %.300v is not %t", c, want)
	}
	text, e := c.Show()
	if !want {
		if text != "" || e != api.ErrForm {
			t.Fatalf("Show of %.300v: %.300q, %d", c, text, e)
		}
		return
	}
	if text != plainText(c) || e != api.OK {
		t.Fatalf("Show of %.300v: %.300q, %d", c, text, e)
	}
	wantRead(t, text, c)
}

// wantRead holds what Read answers.
func wantRead(t *testing.T, text string, want conf.Config) {
	t.Helper()
	if c, f := conf.Read(text); f != (conf.Fault{}) || !sameConfig(c, want) || !c.Right() {
		t.Fatalf("Read(%.300q): %.300v, %v, not %.300v", text, c, f, want)
	}
}

func wantFault(t *testing.T, text string, code api.Errno, line int) {
	t.Helper()
	if c, f := conf.Read(text); f != (conf.Fault{Code: code, Line: line}) || len(c.Sites) > 0 {
		t.Fatalf("Read(%.300q): %.300v, %v, not %d, %d", text, c, f, code, line)
	}
}

// A plain reading of the chapter: words by regular expressions, and a table
// of what stands behind what.

var (
	remarkForm = regexp.MustCompile(`//[^\n]*`)
	wordForm   = regexp.MustCompile(`[{};]|[^ \t\n{};]+`)
	hostForm   = regexp.MustCompile(`\A[a-z0-9.-]{1,40}(:(0|[1-9][0-9]{0,4}))?\z`)
	numberForm = regexp.MustCompile(`\A[0-9]{1,10}\z`)
	headForm   = regexp.MustCompile("\\A[a-z0-9!#$%&'*+.^_|\x60\x7e-]{1,64}\\z")
)

func plainOwnHost(s string) bool { return hostForm.MatchString(s) && !strings.HasSuffix(s, ":80") }

func plainText(c conf.Config) string {
	lines := []string{}
	for _, s := range c.Sites {
		key := []string{"path"}
		if s.Query {
			key = append(key, "query")
		}
		for _, name := range s.Heads {
			key = append(key, "header", name)
		}
		lines = append(lines,
			strings.Join([]string{"site", s.Host, "{"}, " "),
			"  origin "+strconv.Itoa(s.Origin)+";",
			"  ttl "+strconv.Itoa(s.Min)+" "+strconv.Itoa(s.Max)+";",
			"  key "+strings.Join(key, " ")+";",
			"  keep "+map[bool]string{true: "on", false: "off"}[s.Keep]+";",
			"}")
	}
	return strings.Join(append(lines, ""), "\n")
}

// state is what was read, and what must stand next.
type state struct {
	conf.Config
	next string
	said map[string]bool
}

// take is the fault at a word, if there is one.
func (m *state) take(w string) api.Errno {
	var s *conf.Site
	if n := len(m.Sites); n > 0 {
		s = &m.Sites[n-1]
	}
	fixed := map[string][2]string{"{": {"{", "rules"}, "path": {"path", "keys"}, ";": {";", "rules"}}
	if f, ok := fixed[m.next]; ok {
		m.next = f[1]
		return when(w != f[0], api.ErrWord)
	}
	switch m.next {
	case "site":
		m.next = "host"
		return first(when(w != "site", api.ErrWord), when(len(m.Sites) == 8, api.ErrLimit))
	case "host":
		_, again := m.Find(w)
		m.Sites = append(m.Sites, plain(w))
		m.next, m.said = "{", map[string]bool{}
		return first(when(!plainOwnHost(w), api.ErrWord), when(again, api.ErrTwice))
	case "rules":
		return m.rule(w)
	case "origin", "ttl", "most":
		return m.number(s, w)
	case "keys":
		return m.key(s, w)
	case "name":
		rises := len(s.Heads) == 0 || slices.Max(s.Heads) < w
		s.Heads = append(s.Heads, w)
		m.next = "keys"
		return first(when(!rises || !headForm.MatchString(w), api.ErrWord), when(len(s.Heads) > 4, api.ErrLimit))
	default: // keep
		s.Keep = w == "on"
		m.next = ";"
		return when(w != "on" && w != "off", api.ErrWord)
	}
}

func (m *state) rule(w string) api.Errno {
	again := m.said[w]
	m.said[w] = true
	switch w {
	case "}":
		m.next = "site"
		return api.OK
	case "key":
		m.next = "path"
	case "origin", "ttl", "keep":
		m.next = w
	default:
		return api.ErrWord
	}
	return when(again, api.ErrTwice)
}

func (m *state) number(s *conf.Site, w string) api.Errno {
	if !numberForm.MatchString(w) {
		return api.ErrWord
	}
	n, _ := strconv.Atoi(w)
	switch m.next {
	case "origin":
		s.Origin, m.next = n, ";"
		return when(n < 1 || n > 9, api.ErrRange)
	case "ttl":
		s.Min, m.next = n, "most"
		return when(n > far, api.ErrRange)
	}
	s.Max, m.next = n, ";"
	return when(n > far || n < s.Min, api.ErrRange)
}

func (m *state) key(s *conf.Site, w string) api.Errno {
	if !m.said["the key's query"] {
		s.Query = false
	}
	switch {
	case w == ";":
		m.next = "rules"
	case w == "header":
		m.next = "name"
	case w == "query" && !s.Query:
		s.Query = true
		m.said["the key's query"] = true
	default:
		return api.ErrWord
	}
	return api.OK
}

func when(wrong bool, e api.Errno) api.Errno {
	if wrong {
		return e
	}
	return api.OK
}

func first(all ...api.Errno) api.Errno {
	for _, e := range all {
		if e != api.OK {
			return e
		}
	}
	return api.OK
}

func plainRead(text string) (conf.Config, conf.Fault) {
	if len(text) > 4096 {
		return conf.Config{}, conf.Fault{Code: api.ErrLimit, Line: 1}
	}
	lines := strings.Split(remarkForm.ReplaceAllString(text, ""), "\n")
	m := state{next: "site"}
	for i, line := range lines {
		for _, w := range wordForm.FindAllString(line, -1) {
			if e := m.take(w); e != api.OK {
				return conf.Config{}, conf.Fault{Code: e, Line: i + 1}
			}
		}
	}
	if m.next != "site" {
		return conf.Config{}, conf.Fault{Code: api.ErrWord, Line: len(lines)}
	}
	return m.Config, conf.Fault{}
}

// wantPlain holds Read against the plain reading.
func wantPlain(t *testing.T, text string) {
	t.Helper()
	if c, f := plainRead(text); f == (conf.Fault{}) {
		wantRead(t, text, c)
	} else {
		wantFault(t, text, f.Code, f.Line)
	}
}

// P9.1

func TestRightOfAPlainSite(t *testing.T) {
	wantSite(t, plain("a"), true)
	wantSite(t, plain("a.b-c.9:81"), true)
	wantSite(t, conf.Site{}, false)
	wantSite(t, with(func(s *conf.Site) { s.Query, s.Keep = false, false }), true)
}

func TestRightOfItsHost(t *testing.T) {
	for _, s := range []string{
		"a", "-", ".", "9", "80", "a.b", "a..b", "a:0", "a:1", "a:8", "a:81", "a:800", "a:99999", "80:81", "site", "origin",
		small[:20] + digits + digits, small[:20] + digits + digits + ":12345",
	} {
		wantSite(t, plain(s), true)
	}
	for _, s := range []string{
		"", "A", "aB", "a:", "a:80", "a:080", "a:00080", "a:081", "a:00", "a:00000", "a:123456", ":81", ":", "a:b", "a::81", "a b", " a", "a ", "a_b", "a/b", "//", "a//", "{", "a{", "}", ";", "a;", "a\n", "\na", "é", "\xff", "a\x00",
		small[:21] + digits + digits, small[:21] + digits + digits + ":1", strings.Repeat("a", 100000),
	} {
		wantSite(t, plain(s), false)
	}
	for c := range 256 {
		ok := strings.Contains(small+digits+"-.", of(c))
		for _, s := range []string{of(c), "a" + of(c), of(c) + "a", "a" + of(c) + "a"} {
			wantSite(t, plain(s), ok)
		}
		wantSite(t, plain("a:8"+of(c)), c >= '1' && c <= '9')
	}
	for n := 1; n < 60; n++ {
		wantSite(t, plain(strings.Repeat("a", n)), n <= 40)
		wantSite(t, plain(strings.Repeat("a", n)+":7"), n <= 40)
	}
}

func TestRightOfNumbers(t *testing.T) {
	for n := -20; n < 30; n++ {
		wantSite(t, with(func(s *conf.Site) { s.Origin = n }), 1 <= n && n <= 9)
	}
	for _, n := range []int{math.MinInt, -far, far, math.MaxInt, 1<<32 + 1, -1 << 32} {
		wantSite(t, with(func(s *conf.Site) { s.Origin = n }), false)
	}
	edges := []int{math.MinInt, -far, -1, 0, 1, 2, 3599, 3600, 3601, far - 1, far, far + 1, 1 << 32, math.MaxInt}
	for _, least := range edges {
		for _, most := range edges {
			ok := 0 <= least && least <= most && most <= 2147483648
			wantSite(t, with(func(s *conf.Site) { s.Min, s.Max = least, most }), ok)
		}
	}
}

func TestRightOfHeads(t *testing.T) {
	long := strings.Repeat("h", 64)
	for _, names := range [][]string{
		nil, {}, {"a"}, {"a", "b"}, {"a", "b", "c"}, {"a", "b", "c", "d"}, {"a", "aa", "ab", "b"}, {"!", "0", "a", "\x7e"}, {"a", "a-"}, {"a-b", "ab"},
		{"query"}, {"header"}, {"header", "query"}, {"path"}, {"9"}, {long}, {long[1:], long}, {"accept", "accept-encoding", "cookie", "user-agent"},
	} {
		wantSite(t, withHeads(names...), true)
	}
	for _, names := range [][]string{
		{""}, {"", "a"}, {"a", ""}, {"A"}, {"a", "B"}, {"aB"}, {"Accept"}, {"a b"}, {" a"}, {"a "}, {"a;"}, {"a:"}, {"a/b"}, {"//"}, {"é"}, {"a\n"}, {"\xff"}, {"a,b"}, {"\"a\""},
		{"a", "a"}, {"b", "a"}, {"a", "c", "b"}, {"a", "b", "a"}, {"b", "a", "c"}, {"a", "b", "b"}, {"aa", "a"}, {"a", "b", "c", "c"}, {"b", "b", "c", "d"},
		{"a", "b", "c", "d", "e"}, {"a", "b", "c", "d", ""}, {"a", "b", "c", "d", "d"}, {long + "h"}, {"a", long + "h"}, {strings.Repeat("a", 100000)},
	} {
		wantSite(t, withHeads(names...), false)
	}
	for c := range 256 {
		ok := strings.Contains(tokenSigns, of(c))
		for _, name := range []string{of(c), "a" + of(c), of(c) + "a", "a" + of(c) + "a"} {
			wantSite(t, withHeads(name), ok)
		}
		wantSite(t, withHeads("m", of(c)), ok && c > 'm')
	}
	for n := 1; n < 100; n++ {
		wantSite(t, withHeads(strings.Repeat("a", n)), n <= 64)
	}
	many := strings.Split(small, "")
	for n := range many {
		wantSite(t, withHeads(many[:n]...), n <= 4)
	}
}

func TestRightOfAConfig(t *testing.T) {
	for n := range 20 {
		wantConfig(t, config(hosts(n)...), n <= 8)
	}
	wantConfig(t, config(hosts(100000)...), false)
	for n := 1; n <= 8; n++ {
		for i := range n {
			for j := range n {
				sites := hosts(n)
				sites[i].Host = sites[j].Host
				wantConfig(t, config(sites...), i == j)
				sites[i].Host = sites[j].Host + ":81"
				wantConfig(t, config(sites...), true)
			}
			sites := hosts(n)
			sites[i].Origin = 0
			wantConfig(t, config(sites...), false)
		}
	}
	// Two of one Host don't go, whatever their rules are.
	wantConfig(t, config(plain("a"), conf.Site{Host: "a", Origin: 2}), false)
	wantConfig(t, config(plain("b"), plain("a")), true)
}

func TestShow(t *testing.T) {
	for text, c := range map[string]conf.Config{
		"": {},
		"site a {\n  origin 1;\n  ttl 0 3600;\n  key path query;\n  keep on;\n}\n":               config(plain("a")),
		"site a.b:0 {\n  origin 9;\n  ttl 2147483648 2147483648;\n  key path;\n  keep off;\n}\n": config(conf.Site{Host: "a.b:0", Origin: 9, Min: far, Max: far}),
		"site b {\n  origin 2;\n  ttl 0 0;\n  key path header query;\n  keep off;\n}\nsite a {\n  origin 1;\n  ttl 7 60;\n  key path query header accept header b;\n  keep on;\n}\n": config(
			conf.Site{Host: "b", Origin: 2, Heads: []string{"query"}},
			conf.Site{Host: "a", Origin: 1, Min: 7, Max: 60, Query: true, Keep: true, Heads: []string{"accept", "b"}},
		),
	} {
		if got, e := c.Show(); got != text || e != api.OK {
			t.Errorf("%q, %d, not %q", got, e, text)
		}
		wantRead(t, text, c)
	}
	for _, c := range []conf.Config{
		config(conf.Site{}), config(plain("A")), config(plain("a"), plain("a")), config(withHeads("b", "a")), config(hosts(9)...),
		config(with(func(s *conf.Site) { s.Min = 3601 })), config(plain("a"), conf.Site{}),
	} {
		if got, e := c.Show(); got != "" || e != api.ErrForm {
			t.Errorf("%q, %d of %v", got, e, c)
		}
	}
}

func TestFind(t *testing.T) {
	two := conf.Site{Host: "b", Origin: 2, Min: 3, Max: 4, Heads: []string{"x", "y"}}
	again := conf.Site{Host: "b", Origin: 3}
	wrong := conf.Site{Host: "A b", Origin: -1, Min: 5, Keep: true, Heads: []string{"Z", "a", "a"}}
	c := config(plain("a"), two, again, wrong, plain("c:81"), plain(""))
	for host, want := range map[string]conf.Site{
		"a": plain("a"), "b": two, "A b": wrong, "c:81": plain("c:81"), "": plain(""),
	} {
		if s, ok := c.Find(host); !ok || !sameSite(s, want) {
			t.Errorf("%q: %v, %t", host, s, ok)
		}
	}
	for _, host := range []string{"A", "B", "c", "c:80", "c:081", "c:8", "a ", "a:80", "a.b", "x", "\xff", strings.Repeat("a", 100000)} {
		if s, ok := c.Find(host); ok || !sameSite(s, conf.Site{}) {
			t.Errorf("%.30q: %v, %t", host, s, ok)
		}
	}
	for _, c := range []conf.Config{{}, config(), config(plain("a"))} {
		if s, ok := c.Find(""); ok || !sameSite(s, conf.Site{}) {
			t.Errorf("%v, %t", s, ok)
		}
	}
	for i, want := range hosts(8) {
		if s, ok := config(hosts(8)...).Find(want.Host); !ok || !sameSite(s, want) {
			t.Errorf("%d: %v, %t", i, s, ok)
		}
	}
}

// P9.2

func TestReadOfTheDocument(t *testing.T) {
	wantRead(t, "site a.b { ttl 5 60; key path header accept; }", config(conf.Site{Host: "a.b", Origin: 1, Min: 5, Max: 60, Keep: true, Heads: []string{"accept"}}))
}

func TestReadOfRules(t *testing.T) {
	for rules, want := range map[string]conf.Site{
		"":                                  plain("a.b"),
		"origin 9;":                         with(func(s *conf.Site) { s.Origin = 9 }),
		"origin 0000000001;":                with(func(s *conf.Site) { s.Origin = 1 }),
		"ttl 0 0;":                          with(func(s *conf.Site) { s.Max = 0 }),
		"ttl 7 7;":                          with(func(s *conf.Site) { s.Min, s.Max = 7, 7 }),
		"ttl 2147483648 2147483648;":        with(func(s *conf.Site) { s.Min, s.Max = far, far }),
		"ttl 0000000005 0000000006;":        with(func(s *conf.Site) { s.Min, s.Max = 5, 6 }),
		"ttl 007 0000000060;":               with(func(s *conf.Site) { s.Min, s.Max = 7, 60 }),
		"ttl 10 9999;":                      with(func(s *conf.Site) { s.Min, s.Max = 10, 9999 }),
		"key path;":                         with(func(s *conf.Site) { s.Query = false }),
		"key path query;":                   plain("a.b"),
		"key path header a;":                with(func(s *conf.Site) { s.Query, s.Heads = false, []string{"a"} }),
		"key path query header a;":          withHeads("a"),
		"key path header a query;":          withHeads("a"),
		"key path header a query header b;": withHeads("a", "b"),
		"key path header a header b header c header d query;":          withHeads("a", "b", "c", "d"),
		"key path header query;":                                       with(func(s *conf.Site) { s.Query, s.Heads = false, []string{"query"} }),
		"key path header query query;":                                 withHeads("query"),
		"key path query header query;":                                 withHeads("query"),
		"key path header header header path;":                          with(func(s *conf.Site) { s.Query, s.Heads = false, []string{"header", "path"} }),
		"keep on;":                                                     plain("a.b"),
		"keep off;":                                                    with(func(s *conf.Site) { s.Keep = false }),
		"keep off; key path; ttl 1 2; origin 3;":                       {Host: "a.b", Origin: 3, Min: 1, Max: 2},
		"origin 3; ttl 1 2; key path; keep off;":                       {Host: "a.b", Origin: 3, Min: 1, Max: 2},
		"key path header \x7e; keep off;ttl 0 2147483648;":             {Host: "a.b", Origin: 1, Max: far, Heads: []string{"\x7e"}},
		"key path header " + strings.Repeat("a", 64) + " query;":       withHeads(strings.Repeat("a", 64)),
		"key path header !#$%&'*+-.^_|\x60\x7e0 header a;keep\toff\n;": {Host: "a.b", Origin: 1, Max: 3600, Heads: []string{"!#$%&'*+-.^_|\x60\x7e0", "a"}},
	} {
		wantRead(t, "site a.b {"+rules+"}", config(want))
		wantRead(t, "site x{} site a.b\n{\n"+rules+"\n}\nsite y { origin 2; }", config(plain("x"), want, conf.Site{Host: "y", Origin: 2, Max: 3600, Query: true, Keep: true}))
	}
}

func TestReadOfRulesInAnyOrder(t *testing.T) {
	rules := []string{"origin 4;", "ttl 5 6;", "key path header x;", "keep off;"}
	whole := conf.Site{Host: "a", Origin: 4, Min: 5, Max: 6, Heads: []string{"x"}}
	var grow func(text string, left []string)
	grow = func(text string, left []string) {
		want := plain("a")
		for _, rule := range rules {
			if slices.Contains(left, rule) {
				continue
			}
			// Each one that was there can't be there again.
			wantFault(t, text+"\n"+rule+"}", api.ErrTwice, 2)
			wantFault(t, text+"\n"+strings.Fields(rule)[0], api.ErrTwice, 2)
			switch rule[:2] {
			case "or":
				want.Origin = whole.Origin
			case "tt":
				want.Min, want.Max = whole.Min, whole.Max
			case "ke":
				if rule[2] == 'y' {
					want.Query, want.Heads = whole.Query, whole.Heads
				} else {
					want.Keep = whole.Keep
				}
			}
		}
		wantRead(t, text+"}", config(want))
		for i, rule := range left {
			grow(text+rule, slices.Concat(left[:i], left[i+1:]))
		}
	}
	grow("site a {", rules)
}

func TestReadOfWhatPartsWords(t *testing.T) {
	words := strings.Fields("site a { origin 3 ; ttl 4 5 ; key path header x query ; keep off ; } site b { } site c:7 { keep on ; }")
	want := config(conf.Site{Host: "a", Origin: 3, Min: 4, Max: 5, Query: true, Heads: []string{"x"}}, plain("b"), plain("c:7"))
	for _, gap := range []string{
		" ", "\t", "\n", "  ", "\t \t", "\n\n", " \n\t", "//\n", " //\n", "// x\n", "//}\n ", "//{;\n", "///\n", "////\n", "// a // b\n", "//a\n//b\n", "//\xff\x00\r\n", "\n//site z {}\n\t", "//'\"\n",
	} {
		wantRead(t, strings.Join(words, gap), want)
		wantRead(t, gap+strings.Join(words, gap)+gap, want)
		wantRead(t, strings.Join(words, gap)+strings.TrimSuffix(gap, "\n"), want)
	}
	// Beside { } ; nothing need part words.
	text := strings.Join(words, " ")
	for _, mark := range []string{"{", "}", ";"} {
		text = strings.ReplaceAll(strings.ReplaceAll(text, " "+mark, mark), mark+" ", mark)
	}
	wantRead(t, text, want)
	wantRead(t, "site a{}site b{}site c:7{origin 2;}", config(plain("a"), plain("b"), conf.Site{Host: "c:7", Origin: 2, Max: 3600, Query: true, Keep: true}))
	wantRead(t, "site//\na//x\n{origin//;\n2//\n;}//", config(conf.Site{Host: "a", Origin: 2, Max: 3600, Query: true, Keep: true}))
	for _, s := range []string{"", " ", "\n", "\t\n \n", "//", "// x", "//site", "//\n", "//\n//", "// site a {\n\n"} {
		wantRead(t, s, conf.Config{})
	}
	// Other bytes part nothing.
	for c := range 256 {
		s := of(c)
		text := "site" + s + "a {}"
		switch {
		case strings.Contains(" \t\n", s):
			wantRead(t, text, config(plain("a")))
		case strings.Contains("{};", s):
			wantFault(t, text, api.ErrWord, 1)
		default:
			wantFault(t, text, api.ErrWord, 1)
			wantFault(t, "site a {}"+s, api.ErrWord, 1)
			wantFault(t, "site a {"+s+"}", api.ErrWord, 1)
			wantFault(t, "site a "+s+" {}", api.ErrWord, 1)
			wantFault(t, s, api.ErrWord, 1)
			wantFault(t, "\n"+s+"\n", api.ErrWord, 2)
			wantRead(t, "//"+s, conf.Config{})
		}
	}
	wantFault(t, "/ /", api.ErrWord, 1)
	wantFault(t, "/", api.ErrWord, 1)
	wantFault(t, "site a/ {}", api.ErrWord, 1)
	wantFault(t, "site a {} /* x */", api.ErrWord, 1)
	wantFault(t, "site a {} # x", api.ErrWord, 1)
	wantFault(t, "site a {}\r\n", api.ErrWord, 1)
	wantFault(t, "site a// {}", api.ErrWord, 1)
}

func TestReadOfItsLength(t *testing.T) {
	for _, n := range []int{4094, 4095, 4096} {
		wantRead(t, strings.Repeat("\n", n), conf.Config{})
		wantRead(t, "//"+strings.Repeat("{", n-2), conf.Config{})
		wantRead(t, strings.Repeat(" ", n-9)+"site a {}", config(plain("a")))
		wantRead(t, "site a {}"+strings.Repeat("\n", n-9), config(plain("a")))
		wantFault(t, strings.Repeat("x", n), api.ErrWord, 1)
		wantFault(t, strings.Repeat("\n", n-1)+"x", api.ErrWord, n)
		wantFault(t, strings.Repeat("\n", n-4)+"site", api.ErrWord, n-3)
		wantFault(t, "site"+strings.Repeat("\n", n-4), api.ErrWord, n-3)
	}
	for _, n := range []int{4097, 4098, 5000, 100000} {
		wantFault(t, strings.Repeat("\n", n), api.ErrLimit, 1)
		wantFault(t, "\n\nsite a {} x"+strings.Repeat(" ", n-13), api.ErrLimit, 1)
		wantFault(t, strings.Repeat("x", n), api.ErrLimit, 1)
		wantFault(t, "//"+strings.Repeat("{", n-2), api.ErrLimit, 1)
		wantFault(t, strings.Repeat("\n", n-9)+"site a {}", api.ErrLimit, 1)
	}
}

// TestFaults holds texts whose last line has the word at which the fault is.
func TestFaults(t *testing.T) {
	long := strings.Repeat("a", 65)
	for text, code := range map[string]api.Errno{
		"x": api.ErrWord, "Site": api.ErrWord, "SITE a {}": api.ErrWord, "sites a {}": api.ErrWord, "{": api.ErrWord, "}": api.ErrWord, ";": api.ErrWord, "a {}": api.ErrWord, "origin 1;": api.ErrWord,
		"site": api.ErrWord, "site\n{": api.ErrWord, "site\n}": api.ErrWord, "site\n;": api.ErrWord, "site\nA": api.ErrWord, "site\na:80": api.ErrWord, "site\na:081": api.ErrWord, "site\na:": api.ErrWord, "site\na_b": api.ErrWord,
		"site\n" + strings.Repeat("a", 41): api.ErrWord, "site\na/b": api.ErrWord, "site\n\xff": api.ErrWord,
		"site a": api.ErrWord, "site a\n}": api.ErrWord, "site a\n;": api.ErrWord, "site a\nb": api.ErrWord, "site a\norigin": api.ErrWord, "site a\n{\n{": api.ErrWord, "site a{\n;": api.ErrWord,
		"site a {}\n}": api.ErrWord, "site a {}\n;": api.ErrWord, "site a {}\n{": api.ErrWord, "site a {}\nx": api.ErrWord, "site a {}\na": api.ErrWord, "site a {}\norigin 1;": api.ErrWord,
		"site a {": api.ErrWord, "site a {\nx": api.ErrWord, "site a {\nsite": api.ErrWord, "site a {\npath": api.ErrWord, "site a {\nquery": api.ErrWord, "site a {\nheader": api.ErrWord, "site a {\non": api.ErrWord, "site a {\n1": api.ErrWord, "site a {\nOrigin 1;": api.ErrWord, "site a {\norigins 1;": api.ErrWord,

		"site a { origin": api.ErrWord, "site a { origin\n;": api.ErrWord, "site a { origin\nx": api.ErrWord, "site a { origin\n-1": api.ErrWord, "site a { origin\n+1": api.ErrWord, "site a { origin\n1x": api.ErrWord, "site a { origin\n0x1": api.ErrWord, "site a { origin\n1_0": api.ErrWord, "site a { origin\n1.0": api.ErrWord, "site a { origin\n00000000001": api.ErrWord, "site a { origin\n12345678901": api.ErrWord, "site a { origin\n\u0661": api.ErrWord,
		"site a { origin\n" + strings.Repeat("1", 100): api.ErrWord, "site a { origin\n" + strings.Repeat("0", 1000): api.ErrWord,
		"site a { origin\n0": api.ErrRange, "site a { origin\n0000000000": api.ErrRange, "site a { origin\n10": api.ErrRange, "site a { origin\n11": api.ErrRange, "site a { origin\n9999999999": api.ErrRange, "site a { origin\n4294967297": api.ErrRange, "site a { origin\n2147483648": api.ErrRange,
		"site a { origin 1": api.ErrWord, "site a { origin 1\n}": api.ErrWord, "site a { origin 1\n2": api.ErrWord, "site a { origin 1\norigin": api.ErrWord, "site a { origin 1\n{": api.ErrWord, "site a { origin 1;\n;": api.ErrWord, "site a { origin 1;\n2;": api.ErrWord,
		"site a { origin 1;\norigin 1;}": api.ErrTwice, "site a { origin 1;\norigin 0;": api.ErrTwice, "site a { origin 1;\norigin": api.ErrTwice, "site a { origin 1;\norigin x": api.ErrTwice, "site a { origin 1; keep on;\norigin 1;}": api.ErrTwice,

		"site a { ttl": api.ErrWord, "site a { ttl\n;": api.ErrWord, "site a { ttl\nx": api.ErrWord, "site a { ttl\n-1": api.ErrWord, "site a { ttl\n+1": api.ErrWord, "site a { ttl\n00000000000": api.ErrWord, "site a { ttl\n2147483649": api.ErrRange, "site a { ttl\n9999999999": api.ErrRange, "site a { ttl\n4294967296 5;": api.ErrRange, "site a { ttl\n2147483649 x": api.ErrRange,
		"site a { ttl 5": api.ErrWord, "site a { ttl 5\n;": api.ErrWord, "site a { ttl 5\nx": api.ErrWord, "site a { ttl 5\n4": api.ErrRange, "site a { ttl 5\n0": api.ErrRange, "site a { ttl 5\n2147483649": api.ErrRange, "site a { ttl 5\n9999999999": api.ErrRange, "site a { ttl 5\n00000000006": api.ErrWord, "site a { ttl 5\n4294967296": api.ErrRange, "site a { ttl 2147483648\n2147483647": api.ErrRange, "site a { ttl 2147483648\n2147483649": api.ErrRange, "site a { ttl 5\n-6": api.ErrWord,
		"site a { ttl 5 6": api.ErrWord, "site a { ttl 5 6\n7": api.ErrWord, "site a { ttl 5 6\n}": api.ErrWord, "site a { ttl 5 6;\nttl": api.ErrTwice, "site a { ttl 5 6;\nttl 5 6;}": api.ErrTwice, "site a { ttl 3601\n3600": api.ErrRange,

		"site a { key": api.ErrWord, "site a { key\n;": api.ErrWord, "site a { key\n}": api.ErrWord, "site a { key\nquery;": api.ErrWord, "site a { key\nheader a;": api.ErrWord, "site a { key\nquery path;": api.ErrWord, "site a { key\nPath": api.ErrWord, "site a { key\nx": api.ErrWord,
		"site a { key path": api.ErrWord, "site a { key path\n}": api.ErrWord, "site a { key path\n{": api.ErrWord, "site a { key path\npath;": api.ErrWord, "site a { key path\nx": api.ErrWord, "site a { key path\nQuery": api.ErrWord, "site a { key path query\nquery;": api.ErrWord, "site a { key path query\npath;": api.ErrWord, "site a { key path query header a\nquery;": api.ErrWord, "site a { key path query\nkeep on;": api.ErrWord, "site a { key path header a\nb": api.ErrWord,
		"site a { key path header": api.ErrWord, "site a { key path header\n;": api.ErrWord, "site a { key path header\n}": api.ErrWord, "site a { key path header\nB": api.ErrWord, "site a { key path header\nbB": api.ErrWord, "site a { key path header\na,b": api.ErrWord, "site a { key path header\na/": api.ErrWord, "site a { key path header\na:": api.ErrWord, "site a { key path header\n\"a\"": api.ErrWord, "site a { key path header\n\xff": api.ErrWord, "site a { key path header\n" + long: api.ErrWord,
		"site a { key path header a header\na": api.ErrWord, "site a { key path header b header\na": api.ErrWord, "site a { key path header b query header\na": api.ErrWord, "site a { key path header b header c header\nbb": api.ErrWord, "site a { key path header query header\nquery": api.ErrWord, "site a { key path header query header\nheader": api.ErrWord, "site a { key path query;\nquery": api.ErrWord,
		"site a { key path header a header b header c header d header\ne": api.ErrLimit, "site a { key path header a header b query header c header d header\ne query": api.ErrLimit, "site a { key path header a header b header c header d query header\ne;}": api.ErrLimit,
		// A Name that can't stand there, and is too many: ErrWord is named first.
		"site a { key path header a header b header c header d header": api.ErrWord, "site a { key path header a header b header c header d header\n;": api.ErrWord, "site a { key path header a header b header c header d header\nd": api.ErrWord, "site a { key path header a header b header c header d header\nE": api.ErrWord, "site a { key path header a header b header c header d header\n" + strings.Repeat("e", 65): api.ErrWord,
		"site a { key path;\nkey": api.ErrTwice, "site a { key path;\nkey path;}": api.ErrTwice, "site a { key path query header x;\nkey query": api.ErrTwice,

		"site a { keep": api.ErrWord, "site a { keep\n;": api.ErrWord, "site a { keep\nOn": api.ErrWord, "site a { keep\nmaybe": api.ErrWord, "site a { keep\n1": api.ErrWord, "site a { keep on": api.ErrWord, "site a { keep on\n}": api.ErrWord, "site a { keep on\noff": api.ErrWord, "site a { keep off\non;": api.ErrWord, "site a { keep on;\nkeep": api.ErrTwice, "site a { keep on;\nkeep off;}": api.ErrTwice,

		"site a {} site\na": api.ErrTwice, "site a {} site\na {}": api.ErrTwice, "site a {} site b {} site\na {}": api.ErrTwice, "site a {} site b {} site\nb {}": api.ErrTwice, "site a:81 {} site\na:81": api.ErrTwice, "site a {} site\nA": api.ErrWord, "site a {} site\na:80": api.ErrWord, "site a {} site b {} site\n{": api.ErrWord,
	} {
		wantFault(t, text, code, 1+strings.Count(text, "\n"))
		wantFault(t, "\n//\n\n"+text, code, 4+strings.Count(text, "\n"))
		wantFault(t, "site z { origin 2; }\n"+text, code, 2+strings.Count(text, "\n"))
		for _, tail := range []string{"//", " // }", " ", "\t", " //{ \xff"} {
			wantFault(t, text+tail, code, 1+strings.Count(text, "\n"))
		}
		wantPlain(t, text)
	}
}

func TestFaultsAtTheEnd(t *testing.T) {
	words := strings.Fields("site a { origin 3 ; ttl 4 5 ; key path header x query ; keep off ; } site b { }")
	ends := []int{0, 20, 24}
	for n := range len(words) + 1 {
		text := strings.Join(words[:n], " ")
		for _, tail := range []string{"", " ", "\n", "\n\n\n", "//", "\n//", "// x\n", "\n \n\t// y\n\n"} {
			if slices.Contains(ends, n) {
				if _, f := conf.Read(text + tail); f != (conf.Fault{}) {
					t.Errorf("%d, %q: %v", n, tail, f)
				}
				continue
			}
			wantFault(t, text+tail, api.ErrWord, 1+strings.Count(tail, "\n"))
			wantFault(t, strings.ReplaceAll(text, " ", "\n")+tail, api.ErrWord, n+strings.Count(tail, "\n"))
		}
	}
}

func TestFaultsOfManySites(t *testing.T) {
	text := ""
	for i := range 8 {
		wantRead(t, text, config(hosts(i)...))
		text += "site h" + strconv.Itoa(i) + " {}\n"
	}
	wantRead(t, text, config(hosts(8)...))
	for _, tail := range []string{"site", "site x {}", "site\nx {}", "site h0 {}", "site X", "site {", "site site"} {
		wantFault(t, text+tail, api.ErrLimit, 9)
	}
	for _, tail := range []string{"x", "Site", "{", "}", ";", "//\nx"} {
		wantFault(t, text+tail, api.ErrWord, 9+strings.Count(tail, "\n"))
	}
	for i := range 8 {
		wantFault(t, strings.Join(strings.SplitAfter(text, "\n")[:7], "")+"site\nh"+strconv.Itoa(min(i, 6)), api.ErrTwice, 9)
	}
}

// TestFirstFault holds that of two faults the first one is told.
func TestFirstFault(t *testing.T) {
	for text, want := range map[string]conf.Fault{
		"site a { origin 0;\nx":                          {Code: api.ErrRange, Line: 1},
		"site A { origin 0;\nx":                          {Code: api.ErrWord, Line: 1},
		"site a { origin 1;\norigin\n0":                  {Code: api.ErrTwice, Line: 2},
		"site a { ttl 9\n8\nx":                           {Code: api.ErrRange, Line: 2},
		"site a { ttl 2147483649\n5;":                    {Code: api.ErrRange, Line: 1},
		"site a {} site a\n{ x":                          {Code: api.ErrTwice, Line: 1},
		"site a { key path header B\nheader A;":          {Code: api.ErrWord, Line: 1},
		"x\nsite a { origin 0; }":                        {Code: api.ErrWord, Line: 1},
		"site a\n\n{ keep\nmaybe; origin 0; }\nsite a {": {Code: api.ErrWord, Line: 4},
	} {
		wantFault(t, text, want.Code, want.Line)
	}
}

// vocabulary is what wrong texts are made of.
func vocabulary() []string {
	return []string{
		"site", "{", "}", ";", "origin", "ttl", "key", "keep", "path", "query", "header", "on", "off", "0", "1", "5", "9", "10", "2147483648", "2147483649", "00000000001", "a", "b", "c.d:81", "A", "a:80", "x-y", "/", "//", "\n", "// }\n", "-1", "a_b", "\xff", strings.Repeat("h", 64), strings.Repeat("h", 65),
	}
}

func pick[T any](r *rand.Rand, of []T) T { return of[r.Intn(len(of))] }

// anyConfig is a right config.
func anyConfig(r *rand.Rand) conf.Config {
	var c conf.Config
	for range r.Intn(18) {
		host := pick(r, []string{"a", "b", "c.d:81", "site", "80", "x", "y:0", "-", strings.Repeat("q", 40) + ":99999", "header", "z"})
		if _, ok := c.Find(host); ok || len(c.Sites) == api.MaxSites {
			continue
		}
		times := []int{0, 1, 5, 60, 3600, far - 1, far, r.Intn(far)}
		s := conf.Site{Host: host, Origin: 1 + r.Intn(9), Min: pick(r, times), Max: pick(r, times), Query: r.Intn(2) == 0, Keep: r.Intn(2) == 0}
		s.Min, s.Max = min(s.Min, s.Max), max(s.Min, s.Max)
		for range r.Intn(5) {
			s.Heads = append(s.Heads, pick(r, []string{"accept", "a", "b", "query", "path", "!", "\x7e", strings.Repeat("h", 64), strings.Repeat("h", 63)}))
		}
		slices.Sort(s.Heads)
		s.Heads = slices.Compact(s.Heads)
		c.Sites = append(c.Sites, s)
	}
	return c
}

// anyWords is a config's words in a form of its own.
func anyWords(r *rand.Rand, c conf.Config) []string {
	var words []string
	for _, s := range c.Sites {
		keys := []string{}
		if s.Query {
			keys = append(keys, "query")
		}
		for _, name := range s.Heads {
			keys = append(keys, "header", name)
		}
		if s.Query && r.Intn(2) == 0 {
			keys = append(keys[1:], "query")
		}
		rules := [][]string{
			{"origin", strconv.Itoa(s.Origin), ";"},
			{"ttl", strconv.Itoa(s.Min), strconv.Itoa(s.Max), ";"},
			slices.Concat([]string{"key", "path"}, keys, []string{";"}),
			{"keep", map[bool]string{true: "on", false: "off"}[s.Keep], ";"},
		}
		words = append(words, "site", s.Host, "{")
		for _, i := range r.Perm(4) {
			if told := sameSite(s, plain(s.Host)); !told || r.Intn(2) == 0 {
				words = append(words, rules[i]...)
			}
		}
		words = append(words, "}")
	}
	return words
}

func anyText(r *rand.Rand, words []string) string {
	text := ""
	for _, w := range words {
		text += w + pick(r, []string{" ", " ", " ", "\t", "\n", "\n  ", "//\n", " // ; }\n"})
	}
	return text
}

func TestReadAgainstAPlainReading(t *testing.T) {
	r := rand.New(rand.NewSource(9))
	faults := map[api.Errno]int{}
	for range 12000 {
		c := anyConfig(r)
		words := anyWords(r, c)
		text := anyText(r, words)
		if len(text) <= api.MaxConfig {
			wantRead(t, text, c)
		}
		for range 1 + r.Intn(2) {
			i := r.Intn(len(words) + 1)
			j := min(len(words), i+r.Intn(2))
			new := pick(r, [][]string{nil, {pick(r, vocabulary())}, {pick(r, vocabulary())}, {"header", pick(r, vocabulary())}, {"header", "m", "header", "n"}, {"site", "m", "{", "}", "site", "n", "{", "}"}})
			words = slices.Concat(words[:i], new, words[j:])
		}
		text = anyText(r, words)
		_, f := plainRead(text)
		faults[f.Code]++
		wantPlain(t, text)
		wantPlain(t, text[:r.Intn(len(text)+1)])
		if len(text) > 0 {
			b := []byte(text)
			b[r.Intn(len(b))] = byte(r.Intn(256))
			wantPlain(t, string(b))
		}
	}
	for _, e := range []api.Errno{api.OK, api.ErrWord, api.ErrRange, api.ErrTwice, api.ErrLimit} {
		if faults[e] < 20 {
			t.Errorf("%d: just %d", e, faults[e])
		}
	}
}

func TestReadOfAnyWords(t *testing.T) {
	r := rand.New(rand.NewSource(10))
	for range 40000 {
		var words []string
		for range r.Intn(12) {
			words = append(words, pick(r, vocabulary()))
		}
		wantPlain(t, anyText(r, words))
		wantPlain(t, strings.Join(words, ""))
		wantPlain(t, "site a { key path "+anyText(r, words))
		wantPlain(t, "site a { "+anyText(r, words))
	}
}

// P9.3

func TestWhatIsShownIsReadAsItIs(t *testing.T) {
	r := rand.New(rand.NewSource(11))
	for range 5000 {
		wantConfig(t, anyConfig(r), true)
	}
	// The longest plain text of all isn't too long to be read.
	var sites []conf.Site
	for i := range 8 {
		var names []string
		for j := range 4 {
			names = append(names, strings.Repeat("h", 63)+strconv.Itoa(j))
		}
		sites = append(sites, conf.Site{Host: strings.Repeat("a", 39) + strconv.Itoa(i) + ":99999", Origin: 9, Min: far, Max: far, Query: true, Heads: names})
	}
	wantConfig(t, config(sites...), true)
}

// Memory

// grown is a list that has spare room, with names in it.
func grown(names ...string) []string {
	return append(append(make([]string, 0, len(names)+3), names...), "spare", "room")[:len(names)]
}

func TestArgumentsStay(t *testing.T) {
	make2 := func() conf.Config {
		return config(conf.Site{Host: "b", Origin: 1, Max: 5, Heads: grown("x", "y")}, conf.Site{Host: "a", Origin: 2, Heads: grown("z")})
	}
	c, before := make2(), make2()
	c.Right()
	c.Show()
	c.Find("a")
	c.Find("b")
	c.Sites[0].Right()
	if !sameConfig(c, before) {
		t.Error(c)
	}
	for i := range c.Sites {
		heads := c.Sites[i].Heads
		if whole := heads[:len(heads)+2]; !slices.Equal(whole[len(heads):], []string{"spare", "room"}) {
			t.Error(whole)
		}
	}
}

func TestAnswersAreNew(t *testing.T) {
	const text = "site a { key path header x header y; } site b { key path header x header y; } site c { key path header z; } site d {}"
	want, _ := conf.Read(text)
	c, _ := conf.Read(text)
	for i := range c.Sites {
		// What is written into one list, and its spare room, is in no other.
		heads := c.Sites[i].Heads
		heads = append(heads, "new")[:cap(append(heads, "new"))]
		for j := range heads {
			heads[j] = "spoilt"
		}
		c.Sites[i].Heads = nil
		for j := i + 1; j < len(c.Sites); j++ {
			if !sameSite(c.Sites[j], want.Sites[j]) {
				t.Error(i, j, c.Sites[j])
			}
		}
	}
	if again, f := conf.Read(text); f != (conf.Fault{}) || !sameConfig(again, want) {
		t.Error(again, f)
	}
	s, _ := want.Find("a")
	s.Heads[0] = "spoilt"
	s.Heads = append(s.Heads, "spoilt")
	if again, f := conf.Read(text); f != (conf.Fault{}) || !sameConfig(again, want) {
		t.Error(want)
	}
	spare := config(conf.Site{Host: "a", Heads: grown("x", "y")})
	s, _ = spare.Find("a")
	s.Heads = append(s.Heads, "spoilt")
	if whole := spare.Sites[0].Heads[:4]; !slices.Equal(whole, []string{"x", "y", "spare", "room"}) {
		t.Error(whole)
	}
}

func TestNilAndEmpty(t *testing.T) {
	for _, c := range []conf.Config{{}, {Sites: []conf.Site{}}, {Sites: hosts(3)[:0]}} {
		wantConfig(t, c, true)
	}
	a, b := withHeads(), withHeads()
	a.Heads, b.Heads = nil, []string{}
	wantSite(t, a, true)
	wantSite(t, b, true)
	textA, _ := config(a).Show()
	textB, _ := config(b).Show()
	if textA != textB {
		t.Error(textA, textB)
	}
}

func TestAnyBytes(t *testing.T) {
	r := rand.New(rand.NewSource(12))
	for range 100000 {
		b := make([]byte, r.Intn(40))
		for i := range b {
			b[i] = pick(r, []byte("site {};/\n \ta0:x\xff\x00"))
		}
		wantPlain(t, string(b))
	}
}
