package plan_test

import (
	"math"
	"math/rand"
	"slices"
	"strconv"
	"strings"
	"testing"

	"pantry/api"
	"pantry/conf"
	"pantry/plan"
)

const (
	far     = 1 << 31
	maxTime = 253402300799
)

// plain is the site of a host by what isn't said in a config's text.
func plain(host string) conf.Site {
	return conf.Site{Host: host, Origin: 1, Max: 3600, Query: true, Keep: true}
}

// with is a plain site that was changed.
func with(host string, change func(s *conf.Site)) conf.Site {
	s := plain(host)
	change(&s)
	return s
}

func config(sites ...conf.Site) conf.Config { return conf.Config{Sites: sites} }

// plains are plain sites of hosts, parted by blanks.
func plains(hosts string) conf.Config {
	var c conf.Config
	for _, host := range strings.Fields(hosts) {
		c.Sites = append(c.Sites, plain(host))
	}
	return c
}

// many are plain sites of so many hosts, each told behind a text.
func many(ahead string, n int) conf.Config {
	var c conf.Config
	for i := range n {
		c.Sites = append(c.Sites, plain(ahead+strconv.Itoa(i)))
	}
	return c
}

// read is the config of a text that has one.
func read(t *testing.T, text string) conf.Config {
	t.Helper()
	c, f := conf.Read(text)
	if f != (conf.Fault{}) {
		t.Fatalf("%q: %v", text, f)
	}
	return c
}

// table is a table of a config's sites, all since the same generation.
func table(generation, since int, c conf.Config) plan.Table {
	t := plan.Table{Generation: generation}
	for _, s := range c.Sites {
		t.Sites = append(t.Sites, plan.Rules{Site: s, Since: since})
	}
	return t
}

// told are actions as a text.
func told(l []plan.Action) string {
	words := []string{}
	for _, a := range l {
		kind := strconv.Itoa(a.Kind)
		if a.Kind >= 0 && a.Kind < 4 {
			kind = []string{"keep", "purge", "drop", "new"}[a.Kind]
		}
		words = append(words, kind+" "+a.Host)
	}
	return strings.Join(words, ", ")
}

func sameSite(a, b conf.Site) bool {
	return a.Host == b.Host && a.Origin == b.Origin && a.Min == b.Min && a.Max == b.Max && a.Query == b.Query && a.Keep == b.Keep && slices.Equal(a.Heads, b.Heads)
}

func sameConfig(a, b conf.Config) bool { return slices.EqualFunc(a.Sites, b.Sites, sameSite) }

func sameTable(a, b plan.Table) bool {
	return a.Generation == b.Generation && slices.EqualFunc(a.Sites, b.Sites, func(x, y plan.Rules) bool {
		return x.Since == y.Since && sameSite(x.Site, y.Site)
	})
}

func wantDiff(t *testing.T, a, b conf.Config, want string) {
	t.Helper()
	if l, e := plan.Diff(a, b); told(l) != want || e != api.OK {
		t.Fatalf("Diff(%.300v, %.300v): %.300s, %d, not %.300s", a, b, told(l), e, want)
	}
}

func wantNoDiff(t *testing.T, a, b conf.Config) {
	t.Helper()
	if l, e := plan.Diff(a, b); len(l) > 0 || e != api.ErrForm {
		t.Fatalf("Diff(%.300v, %.300v): %.300v, %d, not ErrForm", a, b, l, e)
	}
}

func wantRight(t *testing.T, x plan.Table, want bool) {
	t.Helper()
	if x.Right() != want {
		t.Fatalf("Right of %.300v is not %t", x, want)
	}
}

func wantNext(t *testing.T, x plan.Table, c conf.Config, want plan.Table, actions string) {
	t.Helper()
	y, l, e := x.Next(c)
	if !sameTable(y, want) || told(l) != actions || e != api.OK {
		t.Fatalf("Next of %.300v to %.300v: %.300v, %.300s, %d, not %.300v, %.300s", x, c, y, told(l), e, want, actions)
	}
	wantRight(t, y, true)
}

func wantNoNext(t *testing.T, x plan.Table, c conf.Config) {
	t.Helper()
	if y, l, e := x.Next(c); y.Generation != 0 || len(y.Sites) > 0 || len(l) > 0 || e != api.ErrForm {
		t.Fatalf("Next of %.300v to %.300v: %.300v, %.300v, %d, not ErrForm", x, c, y, l, e)
	}
}

// wrongSites are sites of the host w that are not right.
func wrongSites() []conf.Site {
	changes := []func(s *conf.Site){
		func(s *conf.Site) { s.Host = "" },
		func(s *conf.Site) { s.Host = "W" },
		func(s *conf.Site) { s.Host = "w:80" },
		func(s *conf.Site) { s.Host = strings.Repeat("w", 41) },
		func(s *conf.Site) { s.Origin = 0 },
		func(s *conf.Site) { s.Origin = 10 },
		func(s *conf.Site) { s.Origin = math.MinInt },
		func(s *conf.Site) { s.Min = -1 },
		func(s *conf.Site) { s.Min, s.Max = 2, 1 },
		func(s *conf.Site) { s.Max = far + 1 },
		func(s *conf.Site) { s.Heads = []string{""} },
		func(s *conf.Site) { s.Heads = []string{"A"} },
		func(s *conf.Site) { s.Heads = []string{"a", "a"} },
		func(s *conf.Site) { s.Heads = []string{"b", "a"} },
		func(s *conf.Site) { s.Heads = []string{"a", "b", "c", "d", "e"} },
		func(s *conf.Site) { s.Heads = []string{strings.Repeat("a", 65)} },
	}
	sites := []conf.Site{{}}
	for _, change := range changes {
		sites = append(sites, with("w", change))
	}
	return sites
}

// wrongConfigs are configs that are not right, each in its way.
func wrongConfigs() []conf.Config {
	all := []conf.Config{plains("a a"), plains("a b a"), plains("b a c c"), many("h", 9), many("h", 100), config(plain("a"), with("a", func(s *conf.Site) { s.Origin = 2 }))}
	for _, s := range wrongSites() {
		all = append(all, config(s), config(plain("a"), s), config(s, plain("a")), config(plain("a"), s, plain("b")))
	}
	return all
}

// changed are right sites of a host, each unlike all others in one rule or more.
func changed(host string) []conf.Site {
	changes := []func(s *conf.Site){
		func(s *conf.Site) {},
		func(s *conf.Site) { s.Origin = 2 },
		func(s *conf.Site) { s.Origin = 9 },
		func(s *conf.Site) { s.Min = 1 },
		func(s *conf.Site) { s.Min = 3600 },
		func(s *conf.Site) { s.Max = 3601 },
		func(s *conf.Site) { s.Max = 0 },
		func(s *conf.Site) { s.Max = far },
		func(s *conf.Site) { s.Min, s.Max = far, far },
		func(s *conf.Site) { s.Query = false },
		func(s *conf.Site) { s.Keep = false },
		func(s *conf.Site) { s.Query, s.Keep = false, false },
		func(s *conf.Site) { s.Heads = []string{"a"} },
		func(s *conf.Site) { s.Heads = []string{"b"} },
		func(s *conf.Site) { s.Heads = []string{"ab"} },
		func(s *conf.Site) { s.Heads = []string{"a", "b"} },
		func(s *conf.Site) { s.Heads = []string{"a", "c"} },
		func(s *conf.Site) { s.Heads = []string{"a", "b", "c"} },
		func(s *conf.Site) { s.Heads = []string{"a", "b", "c", "d"} },
		func(s *conf.Site) { s.Heads = []string{"a", "b", "c", "e"} },
		func(s *conf.Site) { s.Heads, s.Query = []string{"a"}, false },
	}
	var sites []conf.Site
	for _, change := range changes {
		sites = append(sites, with(host, change))
	}
	return sites
}

// A plain reading of the chapter: rules are the lines of a site's plain text.

// rules are each host's lines in a config's plain text.
func rules(c conf.Config) map[string]string {
	text, e := c.Show()
	if e != api.OK {
		panic(e)
	}
	all := map[string]string{}
	for _, site := range strings.SplitAfter(text, "}\n") {
		if first, rest, ok := strings.Cut(site, "\n"); ok {
			all[strings.Fields(first)[1]] = rest
		}
	}
	return all
}

// plainDiff are the actions as a text.
func plainDiff(a, b conf.Config) string {
	from, to := rules(a), rules(b)
	words := []string{}
	for host := range from {
		switch {
		case to[host] == "":
			words = append(words, host+"\x00drop")
		case to[host] == from[host]:
			words = append(words, host+"\x00keep")
		default:
			words = append(words, host+"\x00purge")
		}
	}
	for host := range to {
		if from[host] == "" {
			words = append(words, host+"\x00new")
		}
	}
	slices.Sort(words)
	for i, w := range words {
		host, kind, _ := strings.Cut(w, "\x00")
		words[i] = kind + " " + host
	}
	return strings.Join(words, ", ")
}

// history is the configs that were one after the other, from generation 1 on.
type history []conf.Config

// since is from which generation on a host had the rules that it has at last.
func (h history) since(host string) int {
	n := len(h)
	last := rules(h[n-1])[host]
	for n > 1 && rules(h[n-2])[host] == last {
		n--
	}
	return n
}

// table is that of the last generation.
func (h history) table() plan.Table {
	t := plan.Table{Generation: len(h)}
	for _, s := range h[len(h)-1].Sites {
		t.Sites = append(t.Sites, plan.Rules{Site: s, Since: h.since(s.Host)})
	}
	return t
}

func pick[T any](r *rand.Rand, of []T) T { return of[r.Intn(len(of))] }

// anyConfig is a right config, of few hosts and few rules.
func anyConfig(r *rand.Rand) conf.Config {
	var c conf.Config
	for range r.Intn(14) {
		host := pick(r, []string{"a", "b", "aa", "a.b", "a-b", "a:1", "a:10", "a:9", "9", "10", "-", strings.Repeat("z", 40) + ":99999"})
		if _, ok := c.Find(host); ok || len(c.Sites) == api.MaxSites {
			continue
		}
		s := plain(host)
		if r.Intn(2) == 0 {
			s = pick(r, changed(host))
		}
		c.Sites = append(c.Sites, s)
	}
	return c
}

// P10.1

func TestKinds(t *testing.T) {
	if plan.Keep != 0 || plan.Purge != 1 || plan.Drop != 2 || plan.New != 3 {
		t.Error(plan.Keep, plan.Purge, plan.Drop, plan.New)
	}
	l, e := plan.Diff(config(plain("a"), plain("b"), plain("c")), config(plain("d"), plain("a"), with("b", func(s *conf.Site) { s.Max = 1 })))
	if e != api.OK || !slices.Equal(l, []plan.Action{{Kind: 0, Host: "a"}, {Kind: 1, Host: "b"}, {Kind: 2, Host: "c"}, {Kind: 3, Host: "d"}}) {
		t.Error(l, e)
	}
}

func TestDiff(t *testing.T) {
	wantDiff(t, config(), config(), "")
	wantDiff(t, config(), plains("a"), "new a")
	wantDiff(t, plains("a"), config(), "drop a")
	wantDiff(t, plains("a"), plains("a"), "keep a")
	wantDiff(t, plains("a"), plains("b"), "drop a, new b")
	wantDiff(t, plains("b"), plains("a"), "new a, drop b")
	wantDiff(t, read(t, "site a { ttl 0 5; }"), read(t, "site a { ttl 0 6; }"), "purge a")
	wantDiff(t, read(t, "site a {} site b { key path; } site c {}"), read(t, "site d {} site b { key path header x; } site a { keep on; }"), "keep a, purge b, drop c, new d")
	// How a rule is said in the text is no matter.
	wantDiff(t, read(t, "site a { key path header x query; origin 01; }"), read(t, "site a {\n  keep on; key path query header x; }"), "keep a")
}

func TestDiffOfHosts(t *testing.T) {
	wantDiff(t, plains("a a:81"), plains("a:81 a:8"), "drop a, new a:8, keep a:81")
	wantDiff(t, plains("a.b"), plains("b.a"), "drop a.b, new b.a")
	wantDiff(t, plains("a"), plains("aa"), "drop a, new aa")
	// Hosts rise byte by byte, not as numbers, nor by their lengths.
	wantDiff(t, plains("b a9 a10 aa"), plains("a:1 a.b a-b 9 10 - ."), "new -, new ., new 10, new 9, new a-b, new a.b, drop a10, drop a9, new a:1, drop aa, drop b")
	wantDiff(t, many("x", 8), many("h", 8), "new h0, new h1, new h2, new h3, new h4, new h5, new h6, new h7, drop x0, drop x1, drop x2, drop x3, drop x4, drop x5, drop x6, drop x7")
	long := strings.Repeat("z", 40)
	wantDiff(t, plains(long+":99999"), plains(long), "new "+long+", drop "+long+":99999")
}

// TestDiffOfOrder holds that the order of sites is no matter.
func TestDiffOfOrder(t *testing.T) {
	r := rand.New(rand.NewSource(1))
	a, b := plains("a b c d e f"), plains("c d e f g h")
	b.Sites[1].Origin, b.Sites[2].Keep = 2, false
	for range 300 {
		wantDiff(t, a, b, "drop a, drop b, keep c, purge d, purge e, keep f, new g, new h")
		r.Shuffle(6, func(i, j int) { a.Sites[i], a.Sites[j] = a.Sites[j], a.Sites[i] })
		r.Shuffle(6, func(i, j int) { b.Sites[i], b.Sites[j] = b.Sites[j], b.Sites[i] })
	}
}

func TestDiffOfEachRule(t *testing.T) {
	for i, s := range changed("m") {
		for j, x := range changed("m") {
			kind := "purge"
			if i == j {
				kind = "keep"
			}
			wantDiff(t, config(s), config(x), kind+" m")
			wantDiff(t, config(plain("a"), s), config(x, plain("z")), "drop a, "+kind+" m, new z")
		}
	}
	a, b := plain("a"), plain("a")
	a.Heads, b.Heads = nil, []string{}
	wantDiff(t, config(a), config(b), "keep a")
	wantDiff(t, config(b), config(a), "keep a")
	// Other hosts' rules are no matter.
	wantDiff(t, config(with("a", func(s *conf.Site) { s.Max = 1 }), plain("b")), config(plain("a"), with("b", func(s *conf.Site) { s.Max = 1 })), "purge a, purge b")
}

func TestDiffOfWrongConfigs(t *testing.T) {
	for _, c := range wrongConfigs() {
		wantNoDiff(t, c, config())
		wantNoDiff(t, config(), c)
		wantNoDiff(t, c, plains("a b"))
		wantNoDiff(t, plains("a b"), c)
		wantNoDiff(t, c, c)
	}
	wantDiff(t, many("h", 8), config(), "drop h0, drop h1, drop h2, drop h3, drop h4, drop h5, drop h6, drop h7")
}

func TestDiffAgainstAPlainReading(t *testing.T) {
	r := rand.New(rand.NewSource(2))
	kinds := map[int]int{}
	for range 8000 {
		a, b := anyConfig(r), anyConfig(r)
		wantDiff(t, a, b, plainDiff(a, b))
		l, _ := plan.Diff(a, b)
		for _, x := range l {
			kinds[x.Kind]++
		}
	}
	for kind := range 4 {
		if kinds[kind] < 1000 {
			t.Error(kind, kinds[kind])
		}
	}
}

// P10.2

func TestFirst(t *testing.T) {
	if x := plan.First(); x.Generation != 0 || len(x.Sites) != 0 {
		t.Error(x)
	}
	wantRight(t, plan.First(), true)
	if c := plan.First().Config(); len(c.Sites) != 0 || !c.Right() {
		t.Error(c)
	}
	if r, ok := plan.First().Find("a"); ok || r.Host != "" {
		t.Error(r)
	}
}

func TestRightOfGenerations(t *testing.T) {
	for _, n := range []int{0, 1, 2, 255, far, maxTime - 1, maxTime} {
		wantRight(t, plan.Table{Generation: n}, true)
		wantRight(t, plan.Table{Generation: n, Sites: []plan.Rules{}}, true)
	}
	for _, n := range []int{-1, -2, math.MinInt, -maxTime, maxTime + 1, maxTime + 2, math.MaxInt} {
		wantRight(t, plan.Table{Generation: n}, false)
		for _, since := range []int{n, n - 1, 0, 1, maxTime} {
			wantRight(t, table(n, since, plains("a")), false)
		}
	}
}

func TestRightOfSince(t *testing.T) {
	edges := []int{math.MinInt, -1, 0, 1, 2, 3, 8, 9, 10, 11, far, maxTime - 1, maxTime, maxTime + 1, math.MaxInt}
	for _, n := range []int{0, 1, 2, 9, 10, maxTime - 1, maxTime} {
		for _, since := range edges {
			ok := 1 <= since && since <= n
			wantRight(t, table(n, since, plains("a")), ok)
			wantRight(t, table(n, since, many("h", 8)), ok)
			if n == 0 {
				continue
			}
			// One site alone counts, wherever it stands.
			for i := range 8 {
				x := table(n, 1+i%n, many("h", 8))
				wantRight(t, x, true)
				x.Sites[i].Since = since
				wantRight(t, x, ok)
			}
		}
	}
}

func TestRightOfSites(t *testing.T) {
	for n := range 20 {
		wantRight(t, table(5, 3, many("h", n)), n <= 8)
	}
	for _, c := range wrongConfigs() {
		for _, since := range []int{0, 1, 5, 6} {
			wantRight(t, table(5, since, c), false)
		}
	}
	for _, s := range changed("a") {
		wantRight(t, table(5, 5, config(s)), true)
		wantRight(t, table(5, 5, config(plain("b"), s, plain("0"))), true)
	}
}

func TestConfig(t *testing.T) {
	all := append(wrongConfigs(), config(), plains("a"), plains("c b a"), many("h", 8), config(changed("x")...))
	for _, c := range all {
		for _, since := range []int{-1, 0, 1, 7, 8} {
			for _, n := range []int{-7, 0, 7, maxTime + 1} {
				if got := table(n, since, c).Config(); !sameConfig(got, c) {
					t.Fatal(got, c)
				}
			}
		}
	}
	x := table(7, 7, plains("b a"))
	x.Sites[1].Since = 2
	if got := x.Config(); !sameConfig(got, plains("b a")) {
		t.Error(got)
	}
}

func TestFind(t *testing.T) {
	var x plan.Table
	x.Generation = 30
	hosts := strings.Fields("b a a.b a:81 aa 9 c-d z:0")
	for i, host := range hosts {
		s := changed(host)[i+12]
		x.Sites = append(x.Sites, plan.Rules{Site: s, Since: i + 3})
	}
	for i, host := range hosts {
		r, ok := x.Find(host)
		if !ok || r.Since != i+3 || !sameSite(r.Site, changed(host)[i+12]) {
			t.Error(host, r, ok)
		}
	}
	for _, host := range []string{"", "A", "a:80", "a:", "a.B", "aaa", " a", "a ", "a:8", "a:811", "d", "z", "\xff", strings.Repeat("a", 10000)} {
		if r, ok := x.Find(host); ok || r.Since != 0 || !sameSite(r.Site, conf.Site{}) {
			t.Error(host, r, ok)
		}
	}
}

// TestFindOfAnyTable holds that tables that aren't right are asked all the same.
func TestFindOfAnyTable(t *testing.T) {
	x := plan.Table{Generation: -4, Sites: []plan.Rules{
		{Site: conf.Site{Host: "B", Origin: 77}, Since: -1},
		{Site: plain("a"), Since: 90},
		{Site: conf.Site{Heads: []string{"X", "X"}}, Since: 5},
		{Site: conf.Site{Host: "a", Origin: 3}, Since: 2},
		{Site: conf.Site{Host: "B", Origin: 78}, Since: 3},
		{Site: plain(""), Since: 6},
	}}
	wantRight(t, x, false)
	for host, want := range map[string]int{"a": 1, "B": 0, "": 2} {
		r, ok := x.Find(host)
		if !ok || r.Since != x.Sites[want].Since || !sameSite(r.Site, x.Sites[want].Site) {
			t.Errorf("%q: %v, %t", host, r, ok)
		}
	}
	if r, ok := x.Find("b"); ok || r.Since != 0 || !sameSite(r.Site, conf.Site{}) {
		t.Error(r, ok)
	}
}

// P10.3

func TestNext(t *testing.T) {
	x := plan.First()
	wantNext(t, x, config(), plan.Table{Generation: 1}, "")
	wantNext(t, x, plains("a"), table(1, 1, plains("a")), "new a")
	x, _, _ = x.Next(plains("a"))
	wantNext(t, x, plains("a"), table(2, 1, plains("a")), "keep a")
	other := config(with("a", func(s *conf.Site) { s.Max = 60 }))
	wantNext(t, x, other, table(2, 2, other), "purge a")
	wantNext(t, x, config(), plan.Table{Generation: 2}, "drop a")
	wantNext(t, x, plains("b"), table(2, 2, plains("b")), "drop a, new b")
}

func TestNextOfManySites(t *testing.T) {
	x, _, _ := plan.First().Next(read(t, "site a {} site b { key path; } site c {}"))
	b := read(t, "site d {} site b { key path header x; } site a { keep on; }")
	want := table(2, 2, b)
	want.Sites[2].Since = 1
	wantNext(t, x, b, want, "keep a, purge b, drop c, new d")
	y, _, _ := x.Next(b)
	c := read(t, "site a {} site b { key path; } site d {}")
	want = table(3, 3, c)
	want.Sites[0].Since, want.Sites[2].Since = 1, 2
	wantNext(t, y, c, want, "keep a, purge b, keep d")
}

// TestNextOfWhatWas holds that rules that come again are since the generation
// in which they came again.
func TestNextOfWhatWas(t *testing.T) {
	a, b := plains("a"), config(with("a", func(s *conf.Site) { s.Keep = false }))
	x := plan.First()
	for i, step := range []struct {
		c       conf.Config
		since   int
		actions string
	}{
		{a, 1, "new a"}, {b, 2, "purge a"}, {a, 3, "purge a"}, {a, 3, "keep a"}, {a, 3, "keep a"}, {config(), 0, "drop a"}, {a, 7, "new a"}, {a, 7, "keep a"}, {b, 9, "purge a"}, {b, 9, "keep a"}, {config(), 0, "drop a"}, {config(), 0, ""}, {b, 13, "new a"},
	} {
		wantNext(t, x, step.c, table(i+1, step.since, step.c), step.actions)
		x, _, _ = x.Next(step.c)
	}
}

func TestNextOfEachRule(t *testing.T) {
	for i, s := range changed("m") {
		for j, other := range changed("m") {
			x := table(9, 4, config(plain("z"), s))
			c := config(other, plain("z"))
			want := table(10, 10, c)
			want.Sites[1].Since = 4
			if i == j {
				want.Sites[0].Since = 4
				wantNext(t, x, c, want, "keep m, keep z")
			} else {
				wantNext(t, x, c, want, "purge m, keep z")
			}
		}
	}
	x := table(9, 4, plains("a"))
	x.Sites[0].Heads = []string{}
	wantNext(t, x, plains("a"), table(10, 4, plains("a")), "keep a")
}

func TestNextOfGenerations(t *testing.T) {
	for _, n := range []int{1, 2, 255, far - 1, far, maxTime - 2, maxTime - 1} {
		for _, since := range []int{1, (n + 1) / 2, n} {
			wantNext(t, table(n, since, plains("a")), plains("a"), table(n+1, since, plains("a")), "keep a")
			wantNext(t, table(n, since, plains("a")), plains("b"), table(n+1, n+1, plains("b")), "drop a, new b")
		}
	}
	for _, c := range append(wrongConfigs(), config(), plains("a")) {
		wantNoNext(t, plan.Table{Generation: maxTime}, c)
		wantNoNext(t, table(maxTime, 1, plains("a")), c)
		wantNoNext(t, table(maxTime, maxTime, plains("a")), c)
		wantNoNext(t, plan.Table{Generation: maxTime + 1}, c)
		wantNoNext(t, plan.Table{Generation: math.MaxInt}, c)
		wantNoNext(t, plan.Table{Generation: -1}, c)
		wantNoNext(t, plan.Table{Generation: math.MinInt}, c)
	}
	wantRight(t, table(maxTime, 1, plains("a")), true)
}

func TestNextOfWrongs(t *testing.T) {
	for _, c := range wrongConfigs() {
		wantNoNext(t, plan.First(), c)
		wantNoNext(t, table(3, 2, plains("a b")), c)
		wantNoNext(t, table(3, 2, c), config())
		wantNoNext(t, table(3, 2, c), plains("a b"))
		wantNoNext(t, table(3, 2, c), c)
	}
	for _, since := range []int{math.MinInt, -1, 0, 4, maxTime, math.MaxInt} {
		wantNoNext(t, table(3, since, plains("a")), plains("a"))
		wantNoNext(t, table(3, since, plains("a")), config())
		for i := range 8 {
			x := table(3, 2, many("h", 8))
			x.Sites[i].Since = since
			wantNoNext(t, x, many("h", 8))
		}
	}
	wantNoNext(t, table(0, 0, plains("a")), plains("a"))
	wantNoNext(t, table(0, 1, plains("a")), plains("a"))
}

func TestNextAgainstAPlainReading(t *testing.T) {
	r := rand.New(rand.NewSource(3))
	for range 150 {
		var h history
		x, last := plan.First(), conf.Config{}
		for range 15 {
			c := anyConfig(r)
			if r.Intn(3) == 0 { // few sites change at a time, in a new order
				c = conf.Config{Sites: slices.Clone(last.Sites)}
				r.Shuffle(len(c.Sites), func(i, j int) { c.Sites[i], c.Sites[j] = c.Sites[j], c.Sites[i] })
				if len(c.Sites) > 0 {
					c.Sites[0] = pick(r, changed(c.Sites[0].Host))
				}
			}
			h = append(h, c)
			wantNext(t, x, c, h.table(), plainDiff(last, c))
			x, _, _ = x.Next(c)
			if !sameConfig(x.Config(), c) {
				t.Fatal(x.Config(), c)
			}
			l, _ := plan.Diff(last, c)
			for _, a := range l {
				found, ok := x.Find(a.Host)
				if ok != (a.Kind != plan.Drop) || ok && found.Since != h.since(a.Host) {
					t.Fatal(a, found, ok)
				}
			}
			last = c
		}
	}
}

// P10.4

func TestServes(t *testing.T) {
	edges := []int{math.MinInt, -maxTime, -2, -1, 0, 1, 2, 3, 7, 8, far, maxTime - 1, maxTime, maxTime + 1, math.MaxInt - 1, math.MaxInt}
	for i, since := range edges {
		for j, generation := range edges {
			want := j >= i
			for _, s := range []conf.Site{{}, plain("a")} {
				if (plan.Rules{Site: s, Since: since}).Serves(generation) != want {
					t.Error(since, generation)
				}
			}
		}
	}
}

func TestServesBehindNext(t *testing.T) {
	x, _, _ := plan.First().Next(plains("a b"))
	x, _, _ = x.Next(config(with("a", func(s *conf.Site) { s.Min = 1 }), plain("b"), plain("c")))
	for host, since := range map[string]int{"a": 2, "b": 1, "c": 2} {
		r, ok := x.Find(host)
		for n := range 5 {
			if !ok || r.Serves(n) != (n >= since) {
				t.Error(host, n, r.Serves(n))
			}
		}
	}
}

// Memory

// grown is a list that has spare room, with names in it.
func grown(names ...string) []string {
	return append(append(make([]string, 0, len(names)+3), names...), "spare", "room")[:len(names)]
}

// roomy is a config with spare room everywhere.
func roomy() conf.Config {
	sites := make([]conf.Site, 0, 5)
	for _, host := range []string{"b", "a", "spare"} {
		s := plain(host)
		s.Heads = grown("x", "y")
		sites = append(sites, s)
	}
	return conf.Config{Sites: sites[:2]}
}

func roomyTable() plan.Table {
	x := table(5, 3, conf.Config{Sites: roomy().Sites[:3]})
	x.Sites = x.Sites[:2]
	return x
}

func sameRoom(heads []string) bool {
	return slices.Equal(heads[:cap(heads)], []string{"x", "y", "spare", "room", ""})
}

func wantConfigStays(t *testing.T, c conf.Config) {
	t.Helper()
	if !sameConfig(conf.Config{Sites: c.Sites[:3]}, conf.Config{Sites: roomy().Sites[:3]}) {
		t.Error(c.Sites[:3])
	}
	for _, s := range c.Sites[:3] {
		if !sameRoom(s.Heads) {
			t.Error(s.Heads[:cap(s.Heads)])
		}
	}
}

func wantTableStays(t *testing.T, x plan.Table) {
	t.Helper()
	whole, want := x, roomyTable()
	whole.Sites, want.Sites = x.Sites[:3], want.Sites[:3]
	if !sameTable(whole, want) {
		t.Error(whole)
	}
	for _, r := range whole.Sites {
		if !sameRoom(r.Heads) {
			t.Error(r.Heads[:cap(r.Heads)])
		}
	}
}

// spoil writes over all of a list, its spare room too.
func spoil[T any](l []T, with T) {
	for i := range l[:cap(l)] {
		l[:cap(l)][i] = with
	}
}

func spoilConfig(c conf.Config) {
	for _, s := range c.Sites {
		spoil(s.Heads, "spoilt")
	}
	spoil(c.Sites, conf.Site{Host: "spoilt", Heads: []string{"spoilt"}})
}

func spoilTable(x plan.Table) {
	for _, r := range x.Sites {
		spoil(r.Heads, "spoilt")
	}
	spoil(x.Sites, plan.Rules{Site: conf.Site{Host: "spoilt"}, Since: -1})
}

// TestArgumentsStay holds that what is handed in isn't changed, nor shared by
// what is told.
func TestArgumentsStay(t *testing.T) {
	a, b, x := roomy(), roomy(), roomyTable()
	b.Sites[0].Max = 5
	l, _ := plan.Diff(a, b)
	b.Sites[0].Max = 3600
	spoil(l, plan.Action{Kind: 9, Host: "spoilt"})
	x.Right()
	spoilConfig(x.Config())
	for _, host := range []string{"a", "b"} {
		r, _ := x.Find(host)
		spoil(r.Heads, "spoilt")
	}
	for range 2 {
		y, l, e := x.Next(a)
		if e != api.OK || told(l) != "keep a, keep b" {
			t.Error(l, e)
		}
		spoilTable(y)
		spoil(l, plan.Action{Kind: 9, Host: "spoilt"})
	}
	wantConfigStays(t, a)
	wantConfigStays(t, b)
	wantTableStays(t, x)
}

// TestAnswersStay holds that nothing of what is handed in is kept.
func TestAnswersStay(t *testing.T) {
	x, c := roomyTable(), roomy()
	c.Sites[0].Max = 5
	y, l, _ := x.Next(c)
	d, _ := plan.Diff(x.Config(), c)
	told1 := x.Config()
	r, _ := x.Find("a")
	spoilTable(x)
	spoilConfig(c)
	if told(l) != "keep a, purge b" || told(d) != "keep a, purge b" {
		t.Error(l, d)
	}
	want := roomy()
	if !sameConfig(told1, want) || !sameSite(r.Site, want.Sites[1]) || r.Since != 3 {
		t.Error(told1, r)
	}
	want.Sites[0].Max = 5
	if !sameConfig(y.Config(), want) || y.Sites[0].Since != 6 || y.Sites[1].Since != 3 {
		t.Error(y)
	}
}

// TestListsOfOneAnswer holds that no two lists of one answer share anything.
func TestListsOfOneAnswer(t *testing.T) {
	x, heads := table(5, 3, plains("a b c")), []string{"x", "y"}
	for i := range x.Sites {
		x.Sites[i].Heads = heads
	}
	c := x.Config()
	y, _, e := x.Next(c)
	if e != api.OK {
		t.Fatal(e)
	}
	c = x.Config()
	for i := range 3 {
		spoil(append(c.Sites[i].Heads, "spoilt"), "spoilt")
		spoil(c.Sites[i].Heads, "spoilt")
		spoil(y.Sites[i].Heads, "spoilt")
		for j := i + 1; j < 3; j++ {
			if !slices.Equal(c.Sites[j].Heads, heads) || !slices.Equal(y.Sites[j].Heads, heads) {
				t.Error(i, j, c, y)
			}
		}
	}
	if !slices.Equal(heads, []string{"x", "y"}) {
		t.Error(heads)
	}
}

func TestNilAndEmpty(t *testing.T) {
	for _, c := range []conf.Config{{}, {Sites: []conf.Site{}}, {Sites: roomy().Sites[:0]}} {
		wantDiff(t, c, config(), "")
		wantDiff(t, plains("a"), c, "drop a")
		wantNext(t, table(2, 1, plains("a")), c, plan.Table{Generation: 3}, "drop a")
	}
	for _, sites := range [][]plan.Rules{nil, {}, roomyTable().Sites[:0]} {
		x := plan.Table{Generation: 4, Sites: sites}
		wantRight(t, x, true)
		wantNext(t, x, plains("a"), table(5, 5, plains("a")), "new a")
		if c := x.Config(); len(c.Sites) > 0 {
			t.Error(c)
		}
	}
}
