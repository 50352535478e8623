package fresh_test

import (
	"math"
	"math/big"
	"math/rand"
	"slices"
	"strconv"
	"strings"
	"testing"

	"pantry/api"
	"pantry/conf"
	"pantry/date"
	"pantry/field"
	"pantry/fresh"
)

const (
	far     = 1 << 31
	maxTime = 253402300799

	use  = 0
	ask  = 1
	none = 2
)

// fields are made of names and values, one after the other.
func fields(parts ...string) field.List {
	var l field.List
	for i := 0; i < len(parts); i += 2 {
		l = append(l, field.Field{Name: parts[i], Value: parts[i+1]})
	}
	return l
}

// say is a Cache-Control of these directives.
func say(directives string) field.List { return fields("Cache-Control", directives) }

// also are the fields of all lists.
func also(lists ...field.List) field.List { return slices.Concat(lists...) }

// on is the date of a time.
func on(t int) string {
	s, e := date.Show(t)
	if e != api.OK {
		panic("no time: " + strconv.Itoa(t))
	}
	return s
}

// keeper is a site that keeps, of any life.
func keeper() conf.Site { return within(0, far) }

// within is a site that keeps, with lives from least to most.
func within(least, most int) conf.Site {
	return conf.Site{Host: "a", Origin: 1, Min: least, Max: most, Keep: true}
}

func wantKept(t *testing.T, method string, asked field.List, status int, came field.List, want bool) {
	t.Helper()
	if fresh.Kept(keeper(), method, asked, status, came) != want {
		t.Errorf("Kept(%.100q, %.300q, %d, %.300q) is not %t", method, asked, status, came, want)
	}
}

func wantLife(t *testing.T, s conf.Site, came field.List, at, want int) {
	t.Helper()
	if got := fresh.Life(s, came, at); got != want {
		t.Errorf("Life(%d to %d, %.300q, %d): %d, not %d", s.Min, s.Max, came, at, got, want)
	}
}

func wantAge(t *testing.T, came field.List, asked, at, now, want int) {
	t.Helper()
	if got := fresh.Age(came, asked, at, now); got != want {
		t.Errorf("Age(%.300q, %d, %d, %d): %d, not %d", came, asked, at, now, got, want)
	}
}

func wantUse(t *testing.T, s conf.Site, req, came field.List, asked, at, now, want int) {
	t.Helper()
	if got := fresh.Use(s, req, came, asked, at, now); got != want {
		t.Errorf("Use(%d to %d, %.300q, %.300q, %d, %d, %d): %d, not %d", s.Min, s.Max, req, came, asked, at, now, got, want)
	}
}

// wantAged holds what may be done with a response of that age, of which a site
// that keeps changes no life.
func wantAged(t *testing.T, req, came string, age, want int) {
	t.Helper()
	wantUse(t, keeper(), say(req), say(came), 1000, 1000, 1000+age, want)
}

func TestExample(t *testing.T) {
	wantUse(t, keeper(), nil, say("max-age=60"), 100, 100, 110, use)
	wantUse(t, keeper(), nil, say("max-age=60"), 100, 100, 159, use)
	wantUse(t, keeper(), nil, say("max-age=60"), 100, 100, 160, ask)
}

func TestKeptBySites(t *testing.T) {
	for _, s := range []conf.Site{
		{}, keeper(), within(0, 0), within(5, 4), within(-1, -1), within(math.MinInt, math.MaxInt), within(math.MaxInt, math.MinInt),
		{Host: "NONE", Origin: -1, Query: true, Heads: []string{"A", "", "vary"}},
	} {
		for _, keep := range []bool{false, true} {
			s.Keep = keep
			for _, came := range []field.List{nil, say("max-age=0"), say("public, max-age=60")} {
				if fresh.Kept(s, "GET", nil, 200, came) != keep {
					t.Errorf("%+v, %q: not %t", s, came, keep)
				}
			}
			if fresh.Kept(s, "GET", nil, 500, nil) || fresh.Kept(s, "PUT", nil, 200, nil) {
				t.Errorf("%+v keeps what isn't kept", s)
			}
		}
	}
}

func TestKeptByMethods(t *testing.T) {
	wantKept(t, "GET", nil, 200, nil, true)
	for _, method := range []string{"", "get", "Get", "GET ", " GET", "GETS", "GE", "G", "ET", "HEAD", "POST", "PUT", "DELETE", "OPTIONS", "TRACE", "CONNECT", "PATCH", "*", "GET\x00", "\xff", strings.Repeat("GET", 1000)} {
		wantKept(t, method, nil, 200, nil, false)
		wantKept(t, method, nil, 200, say("public, max-age=60"), false)
	}
}

// TestKeptByStatus holds each status, with each way to say how long.
func TestKeptByStatus(t *testing.T) {
	plain := []int{200, 203, 204, 300, 301, 404, 410}
	long := []field.List{
		say("max-age=60"), say("max-age=0"), say("max-age"), say("max-age=x"), say("MAX-AGE=1"), say("s-maxage=60"), say("s-maxage=0"), say("s-maxage"),
		say("foo, max-age=3000000000"), fields("Expires", on(2000)), fields("expires", "0"), fields("EXPIRES", ""), fields("a", "b", "Expires", "x", "Expires", "y"),
		fields("Cache-Control", "", "Expires", "-1"), fields("Pragma", "x", "cache-control", "max-age=1"),
	}
	short := []field.List{
		nil, say(""), say("public"), say("min-fresh=5, max-stale=6"), say("max-age =5"), say("no-cache"), say("must-revalidate"), fields("Last-Modified", on(0), "Date", on(10)),
		fields("Expire", on(2000)), fields("Age", "4"), fields("Pragma", "max-age=5, s-maxage=5"), fields("Vary", "Expires"),
	}
	statuses := []int{math.MinInt, -404, -200, -1, 65736, far, far + 200, math.MaxInt}
	for status := range 1200 {
		statuses = append(statuses, status)
	}
	for _, status := range statuses {
		always := slices.Contains(plain, status)
		for _, came := range short {
			wantKept(t, "GET", nil, status, came, always)
		}
		for _, came := range long {
			wantKept(t, "GET", nil, status, came, always || 200 <= status && status <= 599 && status != 206 && status != 304)
		}
		// What a request says is no word about how long.
		wantKept(t, "GET", also(say("max-age=60, s-maxage=60"), fields("Expires", on(2000))), status, nil, always)
	}
}

func TestKeptByDirectives(t *testing.T) {
	for _, x := range []struct {
		directives   string
		asked, comes bool
	}{
		{"", true, true}, {"foo", true, true},
		{"no-store", false, false}, {"NO-STORE", false, false}, {"no-store=x", false, false}, {"public, No-Store, max-age=60", false, false},
		{"private", true, false}, {"Private", true, false}, {`private="a, b"`, true, false}, {"public, private, s-maxage=60", true, false},
		{"no-cache", true, true}, {"must-revalidate", true, true}, {"only-if-cached", true, true}, {"max-age=0", true, true}, {"s-maxage=0", true, true},
		{"min-fresh=60", true, true}, {"max-stale", true, true}, {"no-stores", true, true}, {"privat", true, true}, {`"no-store"`, true, true}, {`x="no-store, private"`, true, true},
	} {
		for _, status := range []int{200, 404} {
			wantKept(t, "GET", say(x.directives), status, nil, x.asked)
			wantKept(t, "GET", nil, status, say(x.directives), x.comes)
			wantKept(t, "GET", fields("a", "b", "cache-control", "x", "CACHE-CONTROL", x.directives), status, say("max-age=60"), x.asked)
			wantKept(t, "GET", say("max-age=60"), status, fields("a", "b", "cache-control", "x", "CACHE-CONTROL", x.directives), x.comes)
			wantKept(t, "GET", say(x.directives), status, say(x.directives), x.asked && x.comes)
			// Fields of other names say nothing of it.
			wantKept(t, "GET", fields("Pragma", x.directives, "Control", x.directives), status, fields("Pragma", x.directives, "Control", x.directives), true)
		}
	}
}

func TestKeptOfWhoMayAsk(t *testing.T) {
	for _, x := range []struct {
		came field.List
		want bool
	}{
		{nil, false}, {say(""), false}, {say("max-age=60"), false}, {say("no-cache"), false}, {say("min-fresh=5"), false}, {say("max-stale=5"), false}, {say("only-if-cached"), false},
		{say("publics, must, s-maxage =5"), false}, {fields("Expires", on(2000)), false}, {fields("Pragma", "public, must-revalidate, s-maxage=60"), false}, {fields("Authorization", "x"), false},
		{say("public"), true}, {say("Public=x"), true}, {say("max-age=0, PUBLIC"), true},
		{say("must-revalidate"), true}, {say("proxy-revalidate"), true}, {say("max-age=60, Must-Revalidate"), true},
		{say("s-maxage=60"), true}, {say("s-maxage=0"), true}, {say("s-maxage"), true}, {say("S-MaxAge=x"), true},
		{say("public, private"), false}, {say("s-maxage=60, no-store"), false}, {say("must-revalidate, private"), false},
	} {
		for _, l := range []field.List{fields("Authorization", "x"), fields("authorization", ""), fields("a", "b", "AUTHORIZATION", "x", "Authorization", "y")} {
			wantKept(t, "GET", l, 200, x.came, x.want)
			// What the request itself says allows nothing.
			wantKept(t, "GET", also(l, say("public, must-revalidate, s-maxage=60")), 200, x.came, x.want)
			wantKept(t, "GET", also(l, say("no-store")), 200, x.came, false)
		}
	}
	for _, l := range []field.List{nil, fields("Authorizations", "x"), fields("Proxy-Authorization", "x"), fields("a", "Authorization"), fields("Cookie", "x")} {
		wantKept(t, "GET", l, 200, nil, true)
	}
}

func TestKeptOfWhatVaries(t *testing.T) {
	for _, x := range []struct {
		vary string
		want bool
	}{
		{"", true}, {"a", true}, {"a, b, C", true}, {"a*", true}, {"**", true}, {`"*"`, true}, {"x=*", true}, {"* *", true}, {`"a, *`, true}, {`"a, *, b"`, true},
		{"*", false}, {" *\t", false}, {"a, *", false}, {"*, a", false}, {"a,*,b", false}, {",*,", false}, {`"a, b", *`, false},
	} {
		wantKept(t, "GET", nil, 200, fields("Vary", x.vary), x.want)
		wantKept(t, "GET", fields("a", "1"), 500, also(say("public, max-age=60"), fields("VARY", "a", "b", "c", "vary", x.vary)), x.want)
		// The request's own Vary says nothing, nor do other fields.
		wantKept(t, "GET", fields("Vary", x.vary), 200, fields("Varys", x.vary, "Accept", x.vary), true)
	}
	wantKept(t, "GET", nil, 200, fields("Vary", `"a`, "Vary", "*"), true)
	wantKept(t, "GET", nil, 200, fields("Vary", `"a`, "Vary", `b", *`), false)
}

// TestLifeInItsOrder holds which field says a response's life, where several
// could.
func TestLifeInItsOrder(t *testing.T) {
	const at = 100000
	ends := fields("Expires", on(at+300))
	changed := fields("Last-Modified", on(at-4000))
	for _, x := range []struct {
		came field.List
		want int
	}{
		{nil, 0}, {say(""), 0}, {say("public, min-fresh=5, max-stale=6"), 0}, {fields("Age", "7", "Date", on(at-50)), 0},
		{say("s-maxage=100"), 100}, {say("max-age=200"), 200}, {ends, 300}, {changed, 400},
		{say("s-maxage=100, max-age=200"), 100}, {say("max-age=200, s-maxage=100"), 100}, {say("s-maxage=200, max-age=100"), 200},
		{also(say("s-maxage=100"), ends), 100}, {also(changed, ends, say("max-age=200, s-maxage=100")), 100}, {also(changed, say("s-maxage=100")), 100},
		{also(ends, say("max-age=200")), 200}, {also(say("max-age=200"), changed), 200}, {also(changed, ends, say("max-age=200")), 200},
		{also(ends, changed), 300}, {also(changed, ends), 300}, {also(say("public"), changed), 400},
		// What is said goes first, however little it says.
		{also(say("s-maxage=0, max-age=200"), ends, changed), 0}, {also(say("s-maxage=x, max-age=200"), ends, changed), 0}, {also(say("s-maxage, max-age=200"), ends), 0},
		{also(say("max-age=0"), ends, changed), 0}, {also(say("max-age"), ends, changed), 0}, {also(say("max-age=-5"), ends), 0},
		{also(fields("Expires", "0"), changed), 0}, {also(fields("Expires", ""), changed), 0}, {also(fields("Expires", on(at-1)), changed), 0}, {also(ends, ends, changed), 0},
		// Of several the least.
		{say("max-age=9, max-age=5"), 5}, {also(say("s-maxage=9"), say("s-maxage=7")), 7},
		{say("max-age=2147483647"), far - 1}, {say("max-age=2147483648"), far}, {say("s-maxage=99999999999"), far},
		// No NoStore, no NoCache and no Pragma change it.
		{say("no-store, no-cache, private, max-age=200"), 200}, {fields("Pragma", "no-cache, max-age=5", "Expires", on(at+300)), 300},
		{also(say("max-age =5"), ends), 300}, {fields("Expire", on(at+300), "LastModified", on(0)), 0},
	} {
		wantLife(t, keeper(), x.came, at, x.want)
	}
}

func TestLifeByExpires(t *testing.T) {
	for _, x := range []struct {
		end, born, at, want int
	}{
		{1000, -1, 1000, 0}, {1001, -1, 1000, 1}, {999, -1, 1000, 0}, {0, -1, 1000, 0}, {0, -1, 0, 0}, {1, -1, 0, 1}, {1030, -1, 1000, 30},
		{1030, 990, 1000, 40}, {1030, 1010, 1000, 20}, {1030, 1030, 1000, 0}, {1030, 1031, 1000, 0}, {1030, 0, 1000, 1030}, {1030, 1029, 5000, 1}, {1030, 1029, 0, 1},
		{maxTime, 0, 0, maxTime}, {maxTime, -1, maxTime, 0}, {maxTime, maxTime - 1, 0, 1}, {0, maxTime, 0, 0}, {far + 1000, -1, 1000, far}, {far + 1001, -1, 1000, far + 1},
	} {
		came := fields("Expires", on(x.end))
		if x.born >= 0 {
			came = also(came, fields("Date", on(x.born)))
		}
		wantLife(t, within(0, math.MaxInt), came, x.at, x.want)
		wantLife(t, within(0, far), came, x.at, min(x.want, far))
	}
	right := on(2000)
	for _, end := range []string{"", "0", "-1", "x", "2000", right + " ", " " + right, strings.ToUpper(right), right[:28], right + "x", strings.Replace(right, "Thu", "Fri", 1), right + ", " + right} {
		wantLife(t, keeper(), fields("Expires", end), 1000, 0)
		wantLife(t, within(7, far), fields("expires", end, "Date", on(10), "Last-Modified", on(0)), 1000, 7)
	}
	wantLife(t, keeper(), fields("Expires", right, "expires", right), 1000, 0)
	wantLife(t, keeper(), fields("a", "b", "EXPIRES", right, "c", right), 1000, 1000)
}

func TestLifeByLastModified(t *testing.T) {
	for _, x := range []struct {
		changed, born, at, want int
	}{
		{1000, -1, 1000, 0}, {999, -1, 1000, 0}, {991, -1, 1000, 0}, {990, -1, 1000, 1}, {981, -1, 1000, 1}, {980, -1, 1000, 2}, {399, -1, 1000, 60}, {400, -1, 1000, 60}, {401, -1, 1000, 59}, {0, -1, 1000, 100},
		{1001, -1, 1000, 0}, {1010, -1, 1000, 0}, {2000, -1, 1000, 0}, {maxTime, -1, 0, 0},
		{500, 900, 1000, 40}, {500, 500, 1000, 0}, {500, 499, 1000, 0}, {500, 490, 1000, 0}, {500, 400, 1000, 0}, {1100, 1200, 1000, 10}, {0, 2000, 1000, 200},
		{0, -1, maxTime, maxTime / 10}, {0, maxTime, 0, maxTime / 10}, {0, -1, 0, 0},
	} {
		came := fields("Last-Modified", on(x.changed))
		if x.born >= 0 {
			came = also(fields("date", on(x.born)), came)
		}
		wantLife(t, within(0, math.MaxInt), came, x.at, x.want)
		wantLife(t, within(3, 50), came, x.at, min(max(x.want, 3), 50))
	}
	right := on(0)
	for _, changed := range []string{"", "0", "x", right + " ", strings.ToLower(right), right + ", " + right} {
		wantLife(t, keeper(), fields("Last-Modified", changed), 1000, 0)
	}
	wantLife(t, keeper(), fields("Last-Modified", right, "last-modified", right), 1000, 0)
	wantLife(t, keeper(), fields("LAST-MODIFIED", right), 1000, 100)
}

// TestDates holds that a Date counts just if it is one date.
func TestDates(t *testing.T) {
	end, changed := fields("Expires", on(5000)), fields("Last-Modified", on(1000))
	for _, x := range []struct {
		date field.List
		born int
	}{
		{nil, 4000}, {fields("Date", on(3000)), 3000}, {fields("DATE", on(3000)), 3000}, {fields("a", on(1), "date", on(3000)), 3000}, {fields("Dates", on(3000)), 4000},
		{fields("Date", ""), 4000}, {fields("Date", "3000"), 4000}, {fields("Date", on(3000)+" "), 4000}, {fields("Date", strings.ToLower(on(3000))), 4000}, {fields("Date", "Mon"+on(3000)[3:]), 4000},
		{fields("Date", on(3000), "Date", on(3000)), 4000}, {fields("Date", on(3000), "date", ""), 4000}, {fields("Date", on(3000), "date", "x"), 4000},
	} {
		wantLife(t, keeper(), also(x.date, end), 4000, 5000-x.born)
		wantLife(t, keeper(), also(x.date, changed), 4000, (x.born-1000)/10)
		wantAge(t, x.date, 4000, 4000, 4005, 4000-x.born+5)
	}
}

func TestLifeBySites(t *testing.T) {
	for _, x := range []struct{ least, most, own, want int }{
		{5, 100, 0, 5}, {5, 100, 4, 5}, {5, 100, 5, 5}, {5, 100, 6, 6}, {5, 100, 99, 99}, {5, 100, 100, 100}, {5, 100, 101, 100}, {5, 100, far, 100},
		{0, 0, 0, 0}, {0, 0, 60, 0}, {60, 60, 0, 60}, {60, 60, 61, 60}, {0, far, far, far}, {far, far, 0, far}, {0, far, 0, 0},
		// Of what isn't right the most goes last.
		{10, 5, 0, 5}, {10, 5, 7, 5}, {10, 5, 20, 5}, {0, -1, 60, -1}, {-9, -5, 0, -5}, {-9, 100, 0, 0}, {-9, 100, 60, 60},
		{math.MinInt, math.MaxInt, 60, 60}, {math.MaxInt, math.MaxInt, 60, math.MaxInt}, {math.MinInt, math.MinInt, 60, math.MinInt}, {math.MaxInt, math.MinInt, 60, math.MinInt},
	} {
		own := strconv.Itoa(x.own)
		for _, came := range []field.List{say("max-age=" + own), say("max-age=1, s-maxage=" + own), fields("Expires", on(1000+x.own))} {
			wantLife(t, within(x.least, x.most), came, 1000, x.want)
			s := conf.Site{Min: x.least, Max: x.most, Query: true, Heads: []string{"age"}}
			wantLife(t, s, came, 1000, x.want)
		}
	}
	wantLife(t, within(5, 100), nil, 1000, 5)
	wantLife(t, conf.Site{}, say("max-age=60"), 1000, 0)
}

func TestAge(t *testing.T) {
	for _, x := range []struct {
		came                 field.List
		asked, at, now, want int
	}{
		{nil, 0, 0, 0, 0}, {nil, 10, 10, 10, 0}, {nil, 10, 12, 12, 2}, {nil, 10, 12, 20, 10}, {nil, 12, 12, 20, 8},
		// A clock that went back counts for nothing.
		{nil, 12, 10, 10, 0}, {nil, 12, 10, 20, 10}, {nil, 10, 12, 5, 2}, {nil, 12, 10, 5, 0}, {nil, maxTime, 0, 0, 0}, {nil, 0, maxTime, 0, maxTime},
		{fields("Age", "0"), 10, 12, 20, 10}, {fields("Age", "7"), 10, 12, 20, 17}, {fields("age", "0007"), 12, 12, 12, 7}, {fields("AGE", "7"), 12, 10, 5, 7},
		{fields("Age", "2147483647"), 10, 10, 10, far - 1}, {fields("Age", "2147483648"), 10, 10, 10, far}, {fields("Age", "99999999999999999999"), 10, 12, 20, far + 10}, {fields("Age", strings.Repeat("9", 5000)), 0, 0, 0, far},
		{fields("Date", on(2)), 10, 12, 20, 18}, {fields("Date", on(12)), 10, 12, 20, 10}, {fields("Date", on(11)), 10, 12, 20, 10}, {fields("Date", on(10)), 10, 12, 20, 10}, {fields("Date", on(9)), 10, 12, 20, 11}, {fields("Date", on(50)), 10, 12, 20, 10}, {fields("Date", on(50)), 12, 12, 20, 8},
		// Of both the greater one.
		{fields("Date", on(2), "Age", "7"), 10, 12, 20, 18}, {fields("Date", on(2), "Age", "8"), 10, 12, 20, 18}, {fields("Date", on(2), "Age", "9"), 10, 12, 20, 19}, {fields("Age", "100", "Date", on(2)), 10, 12, 20, 110},
		{fields("Date", on(2), "Age", "9"), 12, 12, 12, 10}, {fields("Date", on(2), "Age", "11"), 12, 12, 12, 11}, {fields("Date", on(2), "Age", "11"), 20, 12, 12, 11},
		{fields("Date", on(0)), maxTime, maxTime, maxTime, maxTime}, {fields("Date", on(maxTime)), 0, 0, maxTime, maxTime}, {fields("Age", "2147483648", "Date", on(0)), 0, maxTime, maxTime, maxTime + far},
		// What else is said counts for nothing.
		{also(say("max-age=5, no-cache"), fields("Expires", on(1), "Last-Modified", on(1), "Ages", "5")), 10, 12, 20, 10},
	} {
		wantAge(t, x.came, x.asked, x.at, x.now, x.want)
	}
	for _, age := range []string{"", "x", "-7", "+7", "7 ", " 7", "7s", "7.0", "0x7", `"7"`, "7, 8", "7,", "７", "7\x00"} {
		wantAge(t, fields("Age", age), 10, 12, 20, 10)
		wantAge(t, fields("Age", age, "Date", on(2)), 10, 12, 20, 18)
	}
	wantAge(t, fields("Age", "7", "age", "7"), 10, 12, 20, 10)
}

// TestUseAtItsEdges holds the last age at which a response may be used, and
// the first one at which it may not.
func TestUseAtItsEdges(t *testing.T) {
	for _, x := range []struct {
		req, came string
		last      int
	}{
		{"", "max-age=50", 49}, {"", "s-maxage=50", 49}, {"", "max-age=90, s-maxage=50", 49}, {"", "max-age=1", 0}, {"", "max-age=50, must-revalidate", 49}, {"", "max-age=50, private, public, no-store", 49},
		{"max-age=10", "max-age=50", 10}, {"max-age=0", "max-age=50", 0}, {"max-age=49", "max-age=50", 49}, {"max-age=50", "max-age=50", 49}, {"max-age=90", "max-age=50", 49}, {"max-age", "max-age=50", 0}, {"max-age=20, max-age=10", "s-maxage=50", 10},
		{"min-fresh=20", "max-age=50", 30}, {"min-fresh=1", "max-age=50", 49}, {"min-fresh=0", "max-age=50", 49}, {"min-fresh=50", "max-age=50", 0}, {"min-fresh=20, min-fresh=5", "max-age=50", 30},
		{"min-fresh=20, max-age=10", "max-age=50", 10}, {"min-fresh=20, max-age=40", "max-age=50", 30}, {"min-fresh=20, max-age=30", "max-age=50", 30},
		{"max-stale=5", "max-age=50", 55}, {"max-stale=0", "max-age=50", 50}, {"max-stale=x", "max-age=50", 50}, {"max-stale=5", "max-age=0", 5}, {"max-stale=5, max-stale=3", "max-age=50", 53}, {"max-stale", "max-age=50", 50 + far}, {"max-stale=2147483647", "max-age=50", 50 + far - 1},
		{"max-stale=5", "max-age=50, must-revalidate", 49}, {"max-stale=5", "max-age=50, Proxy-Revalidate", 49}, {"max-stale", "max-age=50, must-revalidate", 49}, {"max-stale=5", "s-maxage=50", 49}, {"max-stale=5", "max-age=5, s-maxage=50", 49},
		{"max-stale=5, max-age=10", "max-age=50", 10}, {"max-stale=5, max-age=49", "max-age=50", 49}, {"max-stale=5, max-age=50", "max-age=50", 50}, {"max-stale=5, max-age=52", "max-age=50", 52}, {"max-stale=5, max-age=55", "max-age=50", 55}, {"max-stale=5, max-age=60", "max-age=50", 55},
		{"max-stale=5, min-fresh=0", "max-age=50", 49}, {"max-stale, min-fresh=20", "max-age=50", 30}, {"min-fresh=1, max-stale=5, max-age=90", "max-age=50", 49},
		// What a request hasn't to say, and what a response hasn't.
		{"no-store, private, public, must-revalidate, s-maxage=1", "max-age=50", 49}, {"must-revalidate, s-maxage=1, max-stale=5", "max-age=50", 55}, {"", "max-age=50, min-fresh=20, max-stale=5", 49}, {"max-stale=5", "max-age=50, min-fresh=20", 55},
	} {
		for _, only := range []string{"", ", only-if-cached"} {
			later := ask
			if only != "" {
				later = none
			}
			for _, age := range []int{0, 1, x.last - 1, x.last} {
				if age >= 0 && age <= x.last {
					wantAged(t, x.req+only, x.came, age, use)
				}
			}
			for _, more := range []int{1, 2, 5, 6, 50, 1000, 5 * far} {
				wantAged(t, x.req+only, x.came, x.last+more, later)
			}
			// What the response says of it isn't the request's to say.
			wantAged(t, x.req+only, x.came+", only-if-cached", x.last+1, later)
		}
	}
}

func TestNeverUsed(t *testing.T) {
	for _, x := range []struct {
		req  string
		came field.List
	}{
		{"no-cache", say("max-age=50")}, {"No-Cache=x", say("max-age=50")}, {"no-cache, max-stale, max-age=90, min-fresh=0", say("max-age=50")}, {"no-cache", say("no-cache, s-maxage=50")},
		{"", say("max-age=50, no-cache")}, {"", say(`max-age=50, no-cache="a"`)}, {"max-stale", say("no-cache, max-age=50")}, {"", fields("pragma", "No-Cache", "Expires", on(9000))}, {"max-stale", fields("Pragma", "no-cache", "Expires", on(9000))},
		{"", nil}, {"", say("max-age=0")}, {"max-stale", say("s-maxage=0")}, {"max-stale", say("max-age=0, must-revalidate")}, {"min-fresh=0", nil}, {"max-age=9", nil},
		{"min-fresh=51", say("max-age=50")}, {"min-fresh", say("max-age=50")}, {"min-fresh, max-stale", say("max-age=2147483647")},
	} {
		for age := range 60 {
			wantUse(t, keeper(), say(x.req), x.came, 1000, 1000, 1000+age, ask)
			wantUse(t, keeper(), also(fields("CACHE-CONTROL", "Only-If-Cached"), say(x.req)), x.came, 1000, 1000, 1000+age, none)
		}
	}
}

// TestUseByPragma holds that a Pragma says something just where there is no
// Cache-Control.
func TestUseByPragma(t *testing.T) {
	pragma, long := fields("Pragma", "x, No-Cache"), fields("Expires", on(1050))
	for _, age := range []int{0, 49, 50} {
		later := []int{use, ask}[age/50]
		wantUse(t, keeper(), pragma, long, 1000, 1000, 1000+age, ask)
		wantUse(t, keeper(), nil, also(pragma, long), 1000, 1000, 1000+age, ask)
		wantUse(t, keeper(), also(pragma, say("")), long, 1000, 1000, 1000+age, later)
		wantUse(t, keeper(), nil, also(say("x"), pragma, long), 1000, 1000, 1000+age, later)
		wantUse(t, keeper(), fields("Pragma", "only-if-cached"), long, 1000, 1000, 1000+age, later)
		wantUse(t, keeper(), fields("Pragma", "max-age=0"), long, 1000, 1000, 1000+age, later)
	}
}

// TestUseOfLivesAndAges holds that life and age are those that are told.
func TestUseOfLivesAndAges(t *testing.T) {
	for _, x := range []struct {
		s              conf.Site
		came           field.List
		asked, at, now int
		want           int
	}{
		{within(5, 100), nil, 1000, 1000, 1004, use}, {within(5, 100), nil, 1000, 1000, 1005, ask}, {within(5, 100), nil, 996, 1000, 1000, use}, {within(5, 100), nil, 995, 1000, 1000, ask},
		{within(5, 100), say("max-age=500"), 1000, 1000, 1099, use}, {within(5, 100), say("max-age=500"), 1000, 1000, 1100, ask}, {within(5, 100), say("s-maxage=0"), 1000, 1000, 1004, use},
		{keeper(), fields("Expires", on(1030)), 1000, 1000, 1029, use}, {keeper(), fields("Expires", on(1030)), 1000, 1000, 1030, ask},
		{keeper(), fields("Expires", on(1030), "Date", on(990)), 1000, 1000, 1029, use}, {keeper(), fields("Expires", on(1030), "Date", on(990)), 1000, 1000, 1030, ask},
		{keeper(), fields("Last-Modified", on(900)), 1000, 1000, 1009, use}, {keeper(), fields("Last-Modified", on(900)), 1000, 1000, 1010, ask},
		{keeper(), fields("Cache-Control", "max-age=50", "Age", "49"), 1000, 1000, 1000, use}, {keeper(), fields("Cache-Control", "max-age=50", "Age", "49"), 1000, 1000, 1001, ask}, {keeper(), fields("Cache-Control", "max-age=50", "Age", "49"), 999, 1000, 1000, ask},
		{keeper(), fields("Cache-Control", "max-age=50", "Date", on(951)), 1000, 1000, 1000, use}, {keeper(), fields("Cache-Control", "max-age=50", "Date", on(950)), 1000, 1000, 1000, ask},
		{keeper(), say("max-age=50"), 1000, 1000, 0, use}, {keeper(), say("max-age=50"), maxTime, 0, 49, use}, {keeper(), say("max-age=50"), 0, maxTime, 0, ask},
		{within(0, 0), say("max-age=50"), 1000, 1000, 1000, ask}, {conf.Site{}, say("max-age=50"), 1000, 1000, 1000, ask}, {conf.Site{Max: 9}, say("max-age=50"), 1000, 1000, 1008, use},
	} {
		wantUse(t, x.s, nil, x.came, x.asked, x.at, x.now, x.want)
	}
}

// TestUseOfSitesThatAreNotRight holds lives that are far from all ages.
func TestUseOfSitesThatAreNotRight(t *testing.T) {
	for _, x := range []struct {
		least, most int
		req         string
		want        int
	}{
		{math.MaxInt, math.MaxInt, "", use}, {math.MaxInt, math.MaxInt, "min-fresh", use}, {math.MaxInt, math.MaxInt, "max-age=9", ask}, {math.MaxInt, math.MaxInt, "max-age=9, max-stale", ask}, {math.MaxInt, math.MaxInt, "max-age=10, max-stale", use},
		{math.MinInt, math.MinInt, "", ask}, {math.MinInt, math.MinInt, "max-stale", ask}, {math.MinInt, math.MinInt, "max-stale=0", ask}, {math.MinInt, math.MinInt, "min-fresh=0", ask}, {math.MinInt, math.MinInt, "min-fresh", ask}, {math.MaxInt, math.MinInt, "max-stale", ask},
		{-9, -5, "max-stale=15", use}, {-9, -5, "max-stale=14", ask}, {20, 5, "max-stale=5", use}, {20, 5, "max-stale=4", ask}, {20, 5, "", ask}, {10, 20, "", ask}, {11, 20, "", use},
		{0, -far, "max-stale", ask}, {0, 10 - far, "max-stale", use}, {0, 9 - far, "max-stale", ask},
	} {
		wantUse(t, within(x.least, x.most), say(x.req), nil, 1000, 1000, 1010, x.want)
	}
}

// TestTimesThatAreNone holds what is told beside each one of them.
func TestTimesThatAreNone(t *testing.T) {
	wrong := []int{math.MinInt, -maxTime, -far, -2, -1, maxTime + 1, maxTime + 2, 2 * maxTime, math.MaxInt}
	good := []int{0, 1, far, maxTime - 1, maxTime}
	s := within(5, math.MaxInt)
	came := fields("Cache-Control", "max-age=60", "Age", "7", "Date", on(9))
	for _, n := range wrong {
		wantLife(t, s, came, n, 0)
		wantLife(t, s, nil, n, 0)
		for _, m := range append(good, wrong...) {
			for _, k := range append(good, wrong...) {
				for _, times := range [][3]int{{n, m, k}, {m, n, k}, {m, k, n}} {
					wantAge(t, came, times[0], times[1], times[2], 0)
					wantUse(t, s, say("max-stale"), came, times[0], times[1], times[2], ask)
					wantUse(t, s, say("max-stale, only-if-cached"), came, times[0], times[1], times[2], none)
					wantUse(t, s, say("no-cache"), nil, times[0], times[1], times[2], ask)
					wantUse(t, s, say("no-cache, Only-If-Cached"), nil, times[0], times[1], times[2], none)
					wantUse(t, s, nil, say("max-age=60, only-if-cached"), times[0], times[1], times[2], ask)
				}
			}
		}
	}
	for _, n := range good {
		wantLife(t, s, came, n, 60)
		wantLife(t, s, nil, n, 5)
		wantAge(t, nil, n, n, n, 0)
		wantAge(t, fields("Age", "7"), n, n, n, 7)
		wantUse(t, s, nil, say("max-age=60"), n, n, n, use)
	}
}

// A plain reading of the chapter: what messages say is drawn, and written into
// fields; what is promised is worked out from what was drawn alone, in numbers
// without bounds.

// said is what one message says; numbers below 0, and empty texts, aren't said.
type said struct {
	noStore, noCache, private, public, must, only, access, star bool
	maxAge, shared, minFresh, maxStale                          int
	age, date, end, changed                                     int
	badAge, badDate, badEnd, badChanged                         bool
}

// chance draws a number or, more often than not, that none is said.
func chance(r *rand.Rand, numbers ...int) int {
	if r.Intn(5) < 3 {
		return -1
	}
	return numbers[r.Intn(len(numbers))]
}

func seldom(r *rand.Rand) bool { return r.Intn(8) == 0 }

// near draws a time beside one of the test's own.
func near(r *rand.Rand) int { return 1000 + r.Intn(61) - 30 }

func draw(r *rand.Rand) said {
	return said{
		noStore: seldom(r), noCache: seldom(r), private: seldom(r), public: seldom(r), must: seldom(r), only: seldom(r), access: seldom(r), star: seldom(r),
		maxAge: chance(r, 0, 1, 5, 10, 11, 20, far), shared: chance(r, 0, 1, 9, 10, 30, far), minFresh: chance(r, 0, 1, 2, 5, 10, far), maxStale: chance(r, 0, 1, 2, 5, 10, far),
		age: chance(r, 0, 1, 5, 9, 20, far), date: chance(r, near(r), near(r), near(r), 0), end: chance(r, near(r), near(r), 0, 990), changed: chance(r, near(r), near(r)-100, near(r)-300, 0),
		badAge: seldom(r), badDate: seldom(r), badEnd: seldom(r), badChanged: seldom(r),
	}
}

// words are the directives of what is said.
func (x said) words() []string {
	var all []string
	for i, is := range []bool{x.noStore, x.noCache, x.private, x.public, x.must, x.only} {
		if is {
			all = append(all, []string{"No-Store", "no-cache", "private", "PUBLIC", "proxy-revalidate", "only-if-cached"}[i])
		}
	}
	for i, n := range []int{x.maxAge, x.shared, x.minFresh, x.maxStale} {
		if n >= 0 {
			all = append(all, []string{"max-age=", "S-MaxAge=", "min-fresh=", "max-stale="}[i]+strconv.Itoa(n))
		}
	}
	return all
}

// fields are those that say it, in any order.
func (x said) fields(r *rand.Rand) field.List {
	var l field.List
	for _, word := range x.words() {
		l = append(l, field.Field{Name: "Cache-Control", Value: word})
	}
	if x.access {
		l = append(l, fields("authorization", "x")...)
	}
	if x.star {
		l = append(l, fields("Vary", "a, *")...)
	}
	if x.age >= 0 {
		l = append(l, field.Field{Name: "Age", Value: strconv.Itoa(x.age)})
	}
	if x.badAge {
		l = append(l, fields("AGE", "5")...)
		l = append(l, fields("AGE", "5")...)
	}
	for i, n := range []int{x.date, x.end, x.changed} {
		name := []string{"Date", "Expires", "last-modified"}[i]
		if n >= 0 {
			l = append(l, field.Field{Name: name, Value: on(n)})
		}
		if []bool{x.badDate, x.badEnd, x.badChanged}[i] {
			l = append(l, field.Field{Name: name, Value: "x"})
		}
	}
	r.Shuffle(len(l), func(i, j int) { l[i], l[j] = l[j], l[i] })
	return l
}

// born, and the others, are what the chapter says of what is said.
func (x said) born(at int) int {
	if x.date >= 0 && !x.badDate {
		return x.date
	}
	return at
}

func (x said) life(s conf.Site, at int) int {
	life := 0
	if x.shared >= 0 {
		life = x.shared
	} else if x.maxAge >= 0 {
		life = x.maxAge
	} else if x.badEnd {
		life = 0
	} else if x.end >= 0 {
		life = max(x.end-x.born(at), 0)
	} else if x.changed >= 0 && !x.badChanged && x.changed <= x.born(at) {
		for tenth := x.born(at) - x.changed; tenth >= 10; tenth -= 10 {
			life++
		}
	}
	if life < s.Min {
		life = s.Min
	}
	if life > s.Max {
		life = s.Max
	}
	return life
}

func (x said) ageNow(asked, at, now int) int {
	byDate, byAge, since := at-x.born(at), at-asked, now-at
	if byDate < 0 {
		byDate = 0
	}
	if byAge < 0 {
		byAge = 0
	}
	if x.age >= 0 && !x.badAge {
		byAge += x.age
	}
	if since < 0 {
		since = 0
	}
	if byDate > byAge {
		return byDate + since
	}
	return byAge + since
}

func (x said) kept(keep bool, method string, req said, status int) bool {
	if !keep || method != "GET" || req.noStore || x.noStore || x.private || x.star {
		return false
	}
	if req.access && !x.public && !x.must && x.shared < 0 {
		return false
	}
	if strings.Contains(" 200 203 204 300 301 404 410 ", " "+strconv.Itoa(status)+" ") {
		return true
	}
	if status < 200 || status > 599 || status == 206 || status == 304 {
		return false
	}
	return x.maxAge >= 0 || x.shared >= 0 || x.end >= 0 || x.badEnd
}

func (x said) used(s conf.Site, req said, asked, at, now int) int {
	age, life := big.NewInt(int64(x.ageNow(asked, at, now))), big.NewInt(int64(x.life(s, at)))
	atMost := func(a, b *big.Int) bool { return a.Cmp(b) <= 0 }
	young := req.maxAge < 0 || atMost(age, big.NewInt(int64(req.maxAge)))
	left := new(big.Int).Sub(life, age)
	if !req.noCache && !x.noCache {
		if left.Sign() > 0 && young && (req.minFresh < 0 || atMost(big.NewInt(int64(req.minFresh)), left)) {
			return use
		}
		over := new(big.Int).Neg(left)
		if req.maxStale >= 0 && young && req.minFresh < 0 && !x.must && x.shared < 0 && atMost(over, big.NewInt(int64(req.maxStale))) {
			return use
		}
	}
	if req.only {
		return none
	}
	return ask
}

func anySite(r *rand.Rand) conf.Site {
	bounds := []int{0, 0, 0, 1, 5, 10, 20, 60, far, -3, math.MinInt, math.MaxInt}
	s := within(bounds[r.Intn(len(bounds))], bounds[r.Intn(len(bounds))])
	s.Keep = !seldom(r)
	if s.Min > s.Max && r.Intn(3) > 0 {
		s.Min, s.Max = s.Max, s.Min
	}
	return s
}

func TestAgainstAPlainReading(t *testing.T) {
	methods := []string{"GET", "GET", "GET", "GET", "HEAD", "get"}
	r := rand.New(rand.NewSource(12))
	seen := [3]int{}
	for range 100000 {
		s, req, x := anySite(r), draw(r), draw(r)
		asked, came := req.fields(r), x.fields(r)
		sent, at, now := near(r), near(r), near(r)
		method, status := methods[r.Intn(len(methods))], 190+r.Intn(420)
		if r.Intn(2) == 0 {
			status = []int{200, 203, 204, 300, 301, 404, 410, 206, 304, 199, 599, 600}[r.Intn(12)]
		}
		if want := x.kept(s.Keep, method, req, status); fresh.Kept(s, method, asked, status, came) != want {
			t.Fatalf("Kept(%t, %s, %q, %d, %q) is not %t", s.Keep, method, asked, status, came, want)
		}
		wantLife(t, s, came, at, x.life(s, at))
		wantAge(t, came, sent, at, now, x.ageNow(sent, at, now))
		want := x.used(s, req, sent, at, now)
		wantUse(t, s, asked, came, sent, at, now, want)
		seen[want]++
		if t.Failed() {
			return
		}
	}
	if slices.Min(seen[:]) < 1000 {
		t.Errorf("too few of a kind: %v", seen)
	}
}

// TestAnyBytes holds that wrong fields end, and tell nothing that can't be.
func TestAnyBytes(t *testing.T) {
	const signs = "\"\\=, \t-aegmnostx059*\x00\xff"
	names := []string{"Cache-Control", "Pragma", "Vary", "Age", "Date", "Expires", "Last-Modified", "Authorization", "", "\xff"}
	r := rand.New(rand.NewSource(120))
	draw := func() field.List {
		l := make(field.List, r.Intn(6))
		for i := range l {
			b := make([]byte, r.Intn(30))
			for j := range b {
				b[j] = signs[r.Intn(len(signs))]
			}
			l[i] = field.Field{Name: names[r.Intn(len(names))], Value: string(b)}
		}
		return l
	}
	for range 20000 {
		req, came := draw(), draw()
		s, asked, at, now := within(7, 90), near(r), near(r), near(r)
		fresh.Kept(s, "GET", req, 200, came)
		life, age, may := fresh.Life(s, came, at), fresh.Age(came, asked, at, now), fresh.Use(s, req, came, asked, at, now)
		if life < 7 || life > 90 || age < max(now-at, 0) || age > far+200 || may < use || may > none {
			t.Fatalf("%q, %q, %d, %d, %d: %d, %d, %d", req, came, asked, at, now, life, age, may)
		}
	}
}

// TestManyFields holds that lists past all limits are read too.
func TestManyFields(t *testing.T) {
	many := slices.Repeat(fields("x", "no-store", "Vary", "a, b", "Cache-Control", "max-age=60, foo"), 2000)
	wantKept(t, "GET", many, 200, many, true)
	wantKept(t, "GET", many, 200, also(many, fields("Vary", "*")), false)
	wantKept(t, "GET", also(many, say("no-store")), 200, many, false)
	wantLife(t, keeper(), many, 1000, 60)
	wantAge(t, many, 1000, 1000, 1010, 10)
	wantUse(t, keeper(), many, many, 1000, 1000, 1059, use)
	wantUse(t, keeper(), many, many, 1000, 1000, 1060, ask)
}

// TestArgumentsStay holds that nothing that is handed in is changed, its spare
// room neither, nor kept from call to call.
func TestArgumentsStay(t *testing.T) {
	mark := field.Field{Name: "mark", Value: "no-store"}
	roomy := func(l field.List) field.List { return append(slices.Clone(l), mark, mark, mark)[:len(l)] }
	req := roomy(fields("Cache-Control", "Max-Stale=5", "a", "b", "cache-control", "x"))
	came := roomy(fields("Cache-Control", "Max-Age=50", "VARY", "B, a", "Age", "7", "Date", on(990), "Expires", "x"))
	heads := append(make([]string, 0, 4), "z", "A")
	s := keeper()
	s.Heads = heads
	reqRoom, cameRoom := slices.Clone(req[:cap(req)]), slices.Clone(came[:cap(came)])
	for range 3 {
		wantKept(t, "GET", req, 200, came, true)
		if !fresh.Kept(s, "GET", req, 200, came) {
			t.Error("it is not kept")
		}
		wantLife(t, s, came, 1000, 50)
		wantAge(t, came, 1000, 1000, 1010, 20)
		wantUse(t, s, req, came, 1000, 1000, 1045, use)
		wantUse(t, s, req, came, 1000, 1000, 1046, ask)
		wantUse(t, s, say("only-if-cached"), came, 1000, 1000, 1046, none)
		if !slices.Equal(req[:cap(req)], reqRoom) || !slices.Equal(came[:cap(came)], cameRoom) || !slices.Equal(heads[:cap(heads)], []string{"z", "A", "", ""}) {
			t.Fatal(req[:cap(req)], came[:cap(came)], heads[:cap(heads)])
		}
	}
	came[0].Value = "max-age=9, no-store"
	wantKept(t, "GET", req, 200, came, false)
	wantLife(t, s, came, 1000, 9)
	wantUse(t, s, nil, came, 1000, 1000, 1000, ask)
}
