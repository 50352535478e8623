package field_test

import (
	"math/rand"
	"slices"
	"strings"
	"testing"

	"pantry/api"
	"pantry/field"
)

// fields are made of names and values, one after the other.
func fields(parts ...string) field.List {
	var l field.List
	for i := 0; i < len(parts); i += 2 {
		l = append(l, field.Field{Name: parts[i], Value: parts[i+1]})
	}
	return l
}

// eachByte tells f every byte, as a text.
func eachByte(f func(c byte, s string)) {
	for c := range 256 {
		f(byte(c), string([]byte{byte(c)}))
	}
}

func wantRight(t *testing.T, name string, value string, want bool) {
	t.Helper()
	f := field.Field{Name: name, Value: value}
	if f.Right() != want {
		t.Errorf("Right of %.80q (%d, %d) is not %t", f, len(name), len(value), want)
	}
	if l := (field.List{f}); l.Right() != want {
		t.Errorf("Right of the list of %.80q alone is not %t", f, want)
	}
}

func TestRightOfEachByte(t *testing.T) {
	const tokenSigns = "abcdefghijklmnopqrstuvwxyzABCDEFGHIJKLMNOPQRSTUVWXYZ0123456789" + "!#$%&'*+-.^_|\x60\x7e"
	eachByte(func(c byte, s string) {
		inName := strings.Contains(tokenSigns, s)
		for _, name := range []string{s, "a" + s, s + "a", "a" + s + "a"} {
			wantRight(t, name, "v", inName)
		}
		within := c >= 0x20 && c <= 0x7e || c >= 0x80 || c == 0x09
		atEnds := within && c != 0x20 && c != 0x09
		wantRight(t, "a", "v"+s+"v", within)
		for _, value := range []string{s, s + "v", "v" + s, s + s} {
			wantRight(t, "a", value, atEnds)
		}
	})
}

func TestRightOfAField(t *testing.T) {
	for _, c := range []struct {
		name, value string
		want        bool
	}{
		{"Host", "a.example", true},
		{"cache-control", `max-age=9, no-cache="a, b"`, true},
		{"*", "", true},
		{"a", "", true},
		{"a", "x \t  y", true},
		{"a", "\xff\x80é", true},

		{"", "", false},
		{"", "v", false},
		{" ", "v", false},
		{"a ", "v", false},
		{"a:", "v", false},
		{"a b", "v", false},
		{"é", "v", false},
		{"a", " ", false},
		{"a", "\t", false},
		{"a", "v\r\nb: c", false},
		{"a", "v\x00", false},
		{"a b", " v", false},

		{strings.Repeat("a", api.MaxName-1), "v", true},
		{strings.Repeat("a", api.MaxName), "v", true},
		{strings.Repeat("a", api.MaxName+1), "v", false},
		{strings.Repeat("a", 100000), "v", false},
		{"a", strings.Repeat("v", api.MaxValue-1), true},
		{"a", strings.Repeat("v", api.MaxValue), true},
		{"a", strings.Repeat("v", api.MaxValue+1), false},
		{"a", strings.Repeat("é", api.MaxValue/2), true},
		{"a", strings.Repeat("é", api.MaxValue/2) + "v", false},
		{"a", "v" + strings.Repeat(" ", api.MaxValue-2) + "v", true},
		{"a", "v" + strings.Repeat(" ", api.MaxValue-1) + "v", false},
		{"a", "v" + strings.Repeat(" ", api.MaxValue), false},
		{strings.Repeat("a", api.MaxName), strings.Repeat("v", api.MaxValue), true},
		{strings.Repeat("a", api.MaxName+1), strings.Repeat("v", api.MaxValue+1), false},
	} {
		wantRight(t, c.name, c.value, c.want)
	}
}

func TestRightOfAList(t *testing.T) {
	if !(field.List)(nil).Right() || !(field.List{}).Right() {
		t.Error("no fields aren't right")
	}
	for _, n := range []int{1, 2, api.MaxFields - 1, api.MaxFields, api.MaxFields + 1, 100000} {
		l := field.List(slices.Repeat(fields("a", "v"), n))
		if l.Right() != (n <= api.MaxFields) {
			t.Errorf("Right of %d fields is %t", n, l.Right())
		}
	}
	for n := 1; n <= api.MaxFields; n++ {
		for at := range n {
			for _, wrong := range fields("", "v", "a", "v ", "a b", "v") {
				l := field.List(slices.Repeat(fields("a", "v"), n))
				l[at] = wrong
				if l.Right() {
					t.Errorf("Right of %d fields, the one at %d %q, is true", n, at, wrong)
				}
			}
		}
	}
}

func TestAllAndGet(t *testing.T) {
	l := fields("A", "1", "b", "x", "a", "2", "", "none", "é", "y", "k", "", "K", "z", "K", "", "a b", "3")
	for _, c := range []struct {
		name string
		all  []string
		get  string
	}{
		{"a", []string{"1", "2"}, "1, 2"},
		{"A", []string{"1", "2"}, "1, 2"},
		{"b", []string{"x"}, "x"},
		{"B", []string{"x"}, "x"},
		{"", []string{"none"}, "none"},
		{"é", []string{"y"}, "y"},
		{"k", []string{"", "z", ""}, ", z, "},
		{"A B", []string{"3"}, "3"},

		{"c", nil, ""},
		{"a ", nil, ""},
		{" a", nil, ""},
		{"aa", nil, ""},
		{"É", nil, ""},
		{"\u212a", nil, ""},
	} {
		wantAll(t, l, c.name, c.all, c.get)
	}
	wantAll(t, nil, "a", nil, "")
	wantAll(t, nil, "", nil, "")
	wantAll(t, fields("a", ""), "A", []string{""}, "")
	wantAll(t, fields("a", "", "A", ""), "A", []string{"", ""}, ", ")
	wantAll(t, fields("a", "x, y", "a", ",", "a", " z "), "a", []string{"x, y", ",", " z "}, "x, y, ,,  z ")
}

// wantAll holds that All and Get tell these; that there is no such field, if
// all is empty.
func wantAll(t *testing.T, l field.List, name string, all []string, get string) {
	t.Helper()
	if got := l.All(name); !slices.Equal(got, all) {
		t.Errorf("All(%q) of %q: %q, not %q", name, l, got, all)
	}
	if got, ok := l.Get(name); ok != (len(all) > 0) || got != get {
		t.Errorf("Get(%q) of %q: %q, %t", name, l, got, ok)
	}
}

func TestElements(t *testing.T) {
	for _, c := range []struct {
		l    field.List
		want []string
	}{
		{fields("a", "x"), []string{"x"}},
		{fields("a", "x, y", "b", "q", "A", " z ,,"), []string{"x", "y", "z"}},
		{fields("a", `x="1,2"`, "a", "X"), []string{`x="1,2"`, "X"}},
		{fields("a", "y", "a", "x", "a", "y"), []string{"y", "x", "y"}},

		// The values are one text: quotes go on from one into the next.
		{fields("a", `"x`, "a", `y", z`), []string{`"x, y"`, "z"}},
		{fields("a", `"x`, "b", `"`, "a", `y`), []string{`"x, y`}},
		{fields("a", `"x\`, "a", `y", z`), []string{`"x\, y"`, "z"}},

		{nil, nil},
		{fields("a", ""), nil},
		{fields("a", ",", "a", "", "a", "\t,"), nil},
		{fields("b", "x"), nil},
	} {
		for _, name := range []string{"a", "A"} {
			if got := c.l.Elements(name); !slices.Equal(got, c.want) {
				t.Errorf("Elements(%q) of %q: %q, not %q", name, c.l, got, c.want)
			}
		}
	}
}

func TestHas(t *testing.T) {
	l := fields("Vary", `Accept, "b,c"`, "x", "Host, q", "VARY", "n o ,, max-age=9 ", "vary", "é")
	for _, word := range []string{"Accept", "accept", "ACCEPT", `"b,c"`, `"B,C"`, "n o", "N O", "max-age=9", "Max-Age=9", "é"} {
		if !l.Has("vary", word) || !l.Has("vArY", word) {
			t.Errorf("Has(vary, %q) is false", word)
		}
		if l.Has("x", word) || l.Has("y", word) || l.Has("", word) {
			t.Errorf("Has(%q) is true of another name", word)
		}
	}
	for _, word := range []string{"", " ", ",", "b", "c", `"b`, `c"`, "b,c", "n", "o", "max-age", "accept ", " accept", "accep", "acceptt", "host", "É", `accept, "b,c"`} {
		if l.Has("vary", word) {
			t.Errorf("Has(vary, %q) is true", word)
		}
	}
	if (field.List)(nil).Has("", "") || fields("a", "").Has("a", "") || fields("a", ",,").Has("a", "") {
		t.Error("Has tells an empty word")
	}
}

func TestWithout(t *testing.T) {
	l := fields("A", "1", "b", "x", "a", "2", "", "3", "c", "4")
	for _, c := range []struct {
		names []string
		want  field.List
	}{
		{nil, l},
		{[]string{"q"}, l},
		{[]string{"a "}, l},
		{[]string{"a,b"}, l},
		{[]string{"a"}, fields("b", "x", "", "3", "c", "4")},
		{[]string{"A", "a"}, fields("b", "x", "", "3", "c", "4")},
		{[]string{"C", "B"}, fields("A", "1", "a", "2", "", "3")},
		{[]string{""}, fields("A", "1", "b", "x", "a", "2", "c", "4")},
		{[]string{"q", "c", "", "a", "x", "B"}, nil},
	} {
		if got := l.Without(c.names...); !slices.Equal(got, c.want) {
			t.Errorf("Without(%q): %q, not %q", c.names, got, c.want)
		}
	}
	if got := (field.List)(nil).Without("a"); len(got) != 0 {
		t.Errorf("Without of no fields: %q", got)
	}
}

func TestWith(t *testing.T) {
	l := fields("A", "1", "b", "x", "a", "2", "c", "", "B", "3")
	for _, c := range []struct{ more, want field.List }{
		{nil, l},
		{fields("a", "9"), fields("a", "9", "b", "x", "c", "", "B", "3")},
		{fields("d", "9"), fields("A", "1", "b", "x", "a", "2", "c", "", "B", "3", "d", "9")},
		{fields("C", "9"), fields("A", "1", "b", "x", "a", "2", "C", "9", "B", "3")},
		{fields("a", "8", "B", "9"), fields("a", "8", "B", "9", "c", "")},
		{fields("b", "9", "A", "8"), fields("A", "8", "b", "9", "c", "")},

		// The last one of a name stays, in the place that the first one got.
		{fields("a", "8", "A", "9"), fields("A", "9", "b", "x", "c", "", "B", "3")},
		{fields("d", "7", "e", "8", "D", "9"), fields("A", "1", "b", "x", "a", "2", "c", "", "B", "3", "D", "9", "e", "8")},

		// They needn't be right.
		{fields("", " ", "a b", "\n"), fields("A", "1", "b", "x", "a", "2", "c", "", "B", "3", "", " ", "a b", "\n")},
	} {
		if got := l.With(c.more...); !slices.Equal(got, c.want) {
			t.Errorf("With(%q): %q, not %q", c.more, got, c.want)
		}
	}
	if got := (field.List)(nil).With(); len(got) != 0 {
		t.Errorf("With of nothing: %q", got)
	}
	if got, want := (field.List)(nil).With(fields("a", "1", "b", "2", "A", "3")...), fields("A", "3", "b", "2"); !slices.Equal(got, want) {
		t.Errorf("With of no fields: %q", got)
	}
	many := field.List(slices.Repeat(fields("a", "1"), api.MaxFields))
	if got := many.With(fields("A", "2")...); !slices.Equal(got, fields("A", "2")) {
		t.Errorf("With of %d fields of one name: %q", api.MaxFields, got)
	}
	if got := many.With(fields("b", "2")...); len(got) != api.MaxFields+1 {
		t.Errorf("With beside %d fields: %d", api.MaxFields, len(got))
	}
}

// plainWith reads the promise anew: it marks what goes, and only then takes
// what stays.
func plainWith(l field.List, more field.List) field.List {
	l = slices.Clone(l)
	for _, f := range more {
		first := -1
		var gone []int
		for i := range l {
			if strings.ToLower(l[i].Name) != strings.ToLower(f.Name) {
				continue
			}
			if first < 0 {
				first = i
			} else {
				gone = append(gone, i)
			}
		}
		for _, i := range slices.Backward(gone) {
			l = slices.Delete(l, i, i+1)
		}
		if first < 0 {
			l = append(l, f)
		} else {
			l[first] = f
		}
	}
	return l
}

func plainWithout(l field.List, names []string) field.List {
	return slices.DeleteFunc(slices.Clone(l), func(f field.Field) bool {
		return slices.ContainsFunc(names, func(name string) bool { return strings.ToLower(f.Name) == strings.ToLower(name) })
	})
}

// anyList is a list of few names, so that many of them are the same.
func anyList(r *rand.Rand, most int) field.List {
	names := []string{"a", "A", "b", "B", "ab", "Ab", "", "c"}
	l := make(field.List, r.Intn(most+1))
	for i := range l {
		l[i] = field.Field{Name: names[r.Intn(len(names))], Value: string(rune('0' + r.Intn(10)))}
	}
	return l
}

func TestSettingAgainstAPlainReading(t *testing.T) {
	r := rand.New(rand.NewSource(3))
	for range 30000 {
		l, more := anyList(r, 8), anyList(r, 5)
		if got, want := l.With(more...), plainWith(l, more); !slices.Equal(got, want) {
			t.Fatalf("With(%q) of %q: %q, not %q", more, l, got, want)
		}
		var names []string
		for _, f := range more {
			names = append(names, f.Name)
		}
		if got, want := l.Without(names...), plainWithout(l, names); !slices.Equal(got, want) {
			t.Fatalf("Without(%q) of %q: %q, not %q", names, l, got, want)
		}
		for _, name := range names {
			var all []string
			for _, f := range l {
				if strings.ToLower(f.Name) == strings.ToLower(name) {
					all = append(all, f.Value)
				}
			}
			wantAll(t, l, name, all, strings.Join(all, ", "))
			if got := l.Elements(name); !slices.Equal(got, all) {
				t.Fatalf("Elements(%q) of %q: %q", name, l, got)
			}
			if l.Has(name, "7") != slices.Contains(all, "7") {
				t.Fatalf("Has(%q, 7) of %q is %t", name, l, l.Has(name, "7"))
			}
		}
	}
}

// roomy is a list with spare room, where marks stand.
func roomy(l field.List) field.List {
	room := append(slices.Clone(l), fields("mark", "1", "mark", "2", "mark", "3")...)
	return room[:len(l)]
}

func spoil(l field.List) {
	l = l[:cap(l)]
	for i := range l {
		l[i] = field.Field{Name: "spoilt", Value: "spoilt"}
	}
}

func TestArgumentsStayAndAnswersAreNew(t *testing.T) {
	begin := fields("a", "1", "b", "2", "A", "3", "c", "4")
	setting := fields("b", "9", "d", "8", "D", "7")
	for _, call := range []func(l field.List, more field.List) field.List{
		func(l field.List, more field.List) field.List { return l.Without() },
		func(l field.List, more field.List) field.List { return l.Without("q") },
		func(l field.List, more field.List) field.List { return l.Without("a", "c") },
		func(l field.List, more field.List) field.List { return l.With() },
		func(l field.List, more field.List) field.List { return l.With(more...) },
		func(l field.List, more field.List) field.List { return l.With(more[:1]...) },
		func(l field.List, more field.List) field.List { return l.With(more[1:]...) },
		func(l field.List, more field.List) field.List { return l[:0].With(more[:1]...) },
		func(l field.List, more field.List) field.List { return l[:2].With(more...) },
		func(l field.List, more field.List) field.List { return l[:2].With(l[1:]...) },
	} {
		l, more := roomy(begin), roomy(setting)
		room, moreRoom := slices.Clone(l[:cap(l)]), slices.Clone(more[:cap(more)])
		first := call(l, more)
		want := slices.Clone(first)
		second := call(l, more)
		spoil(first)
		if !slices.Equal(second, want) {
			t.Errorf("two answers share memory: %q", second)
		}
		if !slices.Equal(l[:cap(l)], room) || !slices.Equal(more[:cap(more)], moreRoom) {
			t.Errorf("an argument was changed: %q, %q", l[:cap(l)], more[:cap(more)])
		}
		spoil(l)
		spoil(more)
		if !slices.Equal(second, want) {
			t.Errorf("an answer shares memory with an argument: %q", second)
		}
	}
}

func TestListsOfTextsAreNew(t *testing.T) {
	l := fields("a", "1", "b", "2", "A", "3, 4")
	for _, call := range []func() []string{
		func() []string { return l.All("a") },
		func() []string { return l.Elements("a") },
	} {
		first := call()
		want := slices.Clone(first)
		second := call()
		for i := range first[:cap(first)] {
			first[:cap(first)][i] = "spoilt"
		}
		if !slices.Equal(second, want) || !slices.Equal(call(), want) {
			t.Errorf("two answers share memory: %q", second)
		}
	}
	if !slices.Equal(l, fields("a", "1", "b", "2", "A", "3, 4")) {
		t.Errorf("the list was changed: %q", l)
	}
	names := []string{"B", "q"}
	l.Without(names...)
	if !slices.Equal(names, []string{"B", "q"}) {
		t.Errorf("the names were changed: %q", names)
	}
}

func TestAnythingIsAnswered(t *testing.T) {
	r := rand.New(rand.NewSource(33))
	text := func() string {
		b := make([]byte, r.Intn(6))
		for i := range b {
			b[i] = "a\"\\, \t\x00\x7f\xff=A"[r.Intn(11)]
		}
		return string(b)
	}
	for range 20000 {
		l := make(field.List, r.Intn(5))
		for i := range l {
			l[i] = field.Field{Name: text(), Value: text()}
		}
		name, word := text(), text()
		l.Right()
		joined, ok := l.Get(name)
		if !ok && joined != "" || ok != (len(l.All(name)) > 0) {
			t.Fatalf("Get(%q) of %q: %q, %t", name, l, joined, ok)
		}
		if has := l.Has(name, word); has && !slices.ContainsFunc(l.Elements(name), func(e string) bool { return strings.ToLower(e) == strings.ToLower(word) }) {
			t.Fatalf("Has(%q, %q) of %q", name, word, l)
		}
		if len(l.Without(name).All(name)) != 0 || len(l.With(field.Field{Name: name, Value: word}).All(name)) != 1 {
			t.Fatalf("%q of %q", name, l)
		}
	}
}
