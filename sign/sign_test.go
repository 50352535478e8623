package sign_test

import (
	"math/big"
	"regexp"
	"slices"
	"strings"
	"testing"

	"pantry/api"
	"pantry/sign"
)

// each tells f every text of at most most of these signs.
func each(signs string, most int, f func(s string)) {
	var grow func(s string)
	grow = func(s string) {
		f(s)
		if len(s) == most {
			return
		}
		for i := 0; i < len(signs); i++ {
			grow(s + signs[i:i+1])
		}
	}
	grow("")
}

// eachByte tells f every byte, as a text.
func eachByte(f func(c byte, s string)) {
	for c := range 256 {
		f(byte(c), string([]byte{byte(c)}))
	}
}

const tokenSigns = "abcdefghijklmnopqrstuvwxyzABCDEFGHIJKLMNOPQRSTUVWXYZ0123456789" +
	"!#$%&'*+-.^_|\x60\x7e"

func TestTokenOfEachByte(t *testing.T) {
	count := 0
	eachByte(func(c byte, s string) {
		want := strings.IndexByte(tokenSigns, c) >= 0
		if want {
			count++
		}
		for _, text := range []string{s, "a" + s, s + "a", "a" + s + "a"} {
			if sign.Token(text) != want {
				t.Errorf("Token(%q) is not %t", text, want)
			}
		}
	})
	if count != 26+26+10+15 {
		t.Errorf("%d signs of tokens", count)
	}
}

func TestToken(t *testing.T) {
	for _, s := range []string{tokenSigns, "GET", "Cache-Control", "*", "200", strings.Repeat("a", 100000)} {
		if !sign.Token(s) {
			t.Errorf("Token(%q) is false", s)
		}
	}
	for _, s := range []string{"", " ", " a", "a ", "a b", "a,b", "a=b", `"a"`, "a\x00", "é", "\xff", strings.Repeat("a", 100000) + ":"} {
		if sign.Token(s) {
			t.Errorf("Token(%q) is true", s)
		}
	}
}

func TestLowerOfEachByte(t *testing.T) {
	eachByte(func(c byte, s string) {
		want := c
		if i := strings.IndexByte("ABCDEFGHIJKLMNOPQRSTUVWXYZ", c); i >= 0 {
			want = "abcdefghijklmnopqrstuvwxyz"[i]
		}
		if got := sign.Lower("Q" + s + "q"); got != "q"+string([]byte{want})+"q" {
			t.Errorf("Lower of %q between: %q", s, got)
		}
	})
}

func TestLower(t *testing.T) {
	for s, want := range map[string]string{
		"":               "",
		"Content-LENGTH": "content-length",
		"@AZ[`az{":       "@az[`az{",
		"ÉÄ\u212a\u0130": "ÉÄ\u212a\u0130",
		"\xc3A\xffB\x00": "\xc3a\xffb\x00",
	} {
		if got := sign.Lower(s); got != want {
			t.Errorf("Lower(%q): %q", s, got)
		}
	}
}

func TestSame(t *testing.T) {
	for _, two := range [][2]string{{"", ""}, {"a", "A"}, {"eTaG", "EtAg"}, {"\xffX", "\xffx"}, {"a b", "A B"}} {
		if !sign.Same(two[0], two[1]) || !sign.Same(two[1], two[0]) {
			t.Errorf("Same(%q, %q) is false", two[0], two[1])
		}
	}
	for _, two := range [][2]string{{"", "a"}, {"a", "b"}, {"a", "aa"}, {"a", "a "}, {"[", "{"}, {"@", "`"}, {"é", "É"}, {"k", "\u212a"}, {"\xff", "\xfe"}} {
		if sign.Same(two[0], two[1]) || sign.Same(two[1], two[0]) {
			t.Errorf("Same(%q, %q) is true", two[0], two[1])
		}
	}
}

func TestTrim(t *testing.T) {
	for s, want := range map[string]string{
		"":                 "",
		" ":                "",
		"\t \t":            "",
		"a":                "a",
		" \ta\t b\t ":      "a\t b",
		"a ":               "a",
		"\ta":              "a",
		"\na\r":            "\na\r",
		" \v\f\x00\x00 ":   "\v\f\x00\x00",
		"\u00a0a\u2003":    "\u00a0a\u2003",
		" \xff\t":          "\xff",
		` "a" , `:          `"a" ,`,
		"  " + "\\" + "  ": `\`,
	} {
		if got := sign.Trim(s); got != want {
			t.Errorf("Trim(%q): %q", s, got)
		}
	}
	eachByte(func(c byte, s string) {
		if got, blank := sign.Trim(s+s), c == 0x20 || c == 0x09; blank != (got == "") || !blank && got != s+s {
			t.Errorf("Trim(%q): %q", s+s, got)
		}
	})
}

func TestList(t *testing.T) {
	for _, c := range []struct {
		s    string
		want []string
	}{
		{`a, "b,c" ,, d`, []string{"a", `"b,c"`, "d"}},
		{"a", []string{"a"}},
		{"b,a,b", []string{"b", "a", "b"}},
		{"\t a b \t,\tc\t", []string{"a b", "c"}},
		{"a;q=1 ; x, max-age=\"9\"", []string{"a;q=1 ; x", `max-age="9"`}},
		{"A,\n,\xff,é", []string{"A", "\n", "\xff", "é"}},

		// No elements, and empty ones.
		{"", nil},
		{" \t", nil},
		{",", nil},
		{" , ,\t,", nil},
		{",a,,b,", []string{"a", "b"}},
		{`"",a`, []string{`""`, "a"}},

		// Commas and blanks within quotes, and beside them.
		{`" a , b "`, []string{`" a , b "`}},
		{`a=",",b`, []string{`a=","`, "b"}},
		{`",",","`, []string{`","`, `","`}},
		{`"a"",",b`, []string{`"a"","`, "b"}},
		{`"a",",`, []string{`"a"`, `",`}},
		{`x"a,b"y,z`, []string{`x"a,b"y`, "z"}},

		// Quotes that aren't ended.
		{`"`, []string{`"`}},
		{`a,"b,c`, []string{"a", `"b,c`}},
		{`a,"b,c, `, []string{"a", `"b,c,`}},
		{`"a","`, []string{`"a"`, `"`}},

		// A \ takes what stands behind it, but within quotes only.
		{`"a\",b",c`, []string{`"a\",b"`, "c"}},
		{`"a\\",b`, []string{`"a\\"`, "b"}},
		{`"a\\\",b",c`, []string{`"a\\\",b"`, "c"}},
		{`"a\`, []string{`"a\`}},
		{`"a\"`, []string{`"a\"`}},
		{`"\,",a`, []string{`"\,"`, "a"}},
		{`\,a`, []string{`\`, "a"}},
		{`\"a,b",c`, []string{`\"a,b"`, "c"}},
		{`a\`, []string{`a\`}},
	} {
		if got := sign.List(c.s); !slices.Equal(got, c.want) {
			t.Errorf("List(%q): %q, not %q", c.s, got, c.want)
		}
	}
}

// plainList goes through a list sign by sign, by what each sign turns.
func plainList(s string) []string {
	var elements []string
	element, quoted, taken := "", false, false
	end := func() {
		if element = strings.Trim(element, "\t "); element != "" {
			elements = append(elements, element)
		}
		element = ""
	}
	for _, c := range []byte(s) {
		if c == ',' && !quoted {
			end()
			continue
		}
		element += string([]byte{c})
		switch {
		case taken:
			taken = false
		case c == '"':
			quoted = !quoted
		case c == '\\':
			taken = quoted
		}
	}
	end()
	return elements
}

func TestListOfEachText(t *testing.T) {
	each("a, \t\"\\", 7, func(s string) {
		if got, want := sign.List(s), plainList(s); !slices.Equal(got, want) {
			t.Errorf("List(%q): %q, not %q", s, got, want)
		}
	})
}

func TestListOfManyElements(t *testing.T) {
	if got := sign.List(strings.Repeat("a , ", 100000)); len(got) != 100000 || slices.ContainsFunc(got, func(e string) bool { return e != "a" }) {
		t.Errorf("%d elements", len(got))
	}
	if got := sign.List(strings.Repeat(",", 100000) + strings.Repeat(`"\"`, 100000)); len(got) != 1 {
		t.Errorf("%d elements", len(got))
	}
}

func TestListIsNewMemory(t *testing.T) {
	one, two := sign.List("a,b,c"), sign.List("a,b,c")
	one[0] = "x"
	_ = append(one, "y")
	_ = append(one[:1], "z")
	if !slices.Equal(two, []string{"a", "b", "c"}) || !slices.Equal(sign.List("a,b,c"), two) {
		t.Errorf("lists share memory: %q", two)
	}
}

func TestUnquote(t *testing.T) {
	for s, want := range map[string]string{
		"abc":                  "abc",
		"00012":                "00012",
		`""`:                   "",
		`"a"`:                  "a",
		`"A b,c=d"`:            "A b,c=d",
		`" a "`:                " a ",
		`"a\"b"`:               `a"b`,
		`"\\"`:                 `\`,
		`"\\\""`:               `\"`,
		`"\a\,\ "`:             "a, ",
		`"a\\b"`:               `a\b`,
		"\"\x00\n\xff\\\xfe\"": "\x00\n\xff\xfe",
		"\"é\\é\"":             "éé",
	} {
		if got, ok := sign.Unquote(s); !ok || got != want {
			t.Errorf("Unquote(%q): %q, %t", s, got, ok)
		}
	}
	for _, s := range []string{
		"", " ", "a b", "a,", " a", "é", "\xff",
		`"`, `"a`, `a"`, `"\`, `"\"`, `"a\"`, `"\\\"`,
		`"a"b`, `"a" `, ` "a"`, `"a""b"`, `"""`, `"a"b"`, `a"b"`, `\"a\"`, `'a b'`,
	} {
		if got, ok := sign.Unquote(s); ok || got != "" {
			t.Errorf("Unquote(%q): %q, %t", s, got, ok)
		}
	}
}

func TestUnquoteOfEachText(t *testing.T) {
	token := regexp.MustCompile(`^[a!]+$`)
	quoted := regexp.MustCompile(`^"((?:[^"\\]|\\.)*)"$`)
	taken := regexp.MustCompile(`\\(.)`)
	each("a! ,\"\\", 7, func(s string) {
		want, right := "", false
		if token.MatchString(s) {
			want, right = s, true
		} else if inside := quoted.FindStringSubmatch(s); inside != nil {
			want, right = taken.ReplaceAllString(inside[1], "$1"), true
		}
		if got, ok := sign.Unquote(s); ok != right || got != want {
			t.Errorf("Unquote(%q): %q, %t, not %q, %t", s, got, ok, want, right)
		}
	})
}

func TestUnquoteOfEachByte(t *testing.T) {
	eachByte(func(c byte, s string) {
		if got, ok := sign.Unquote(`"x\` + s + `y"`); !ok || got != "x"+s+"y" {
			t.Errorf("behind a backslash %q: %q, %t", s, got, ok)
		}
		if c == '"' || c == '\\' {
			return
		}
		if got, ok := sign.Unquote(`"` + s + `"`); !ok || got != s {
			t.Errorf("within quotes %q: %q, %t", s, got, ok)
		}
	})
}

func TestNumber(t *testing.T) {
	for s, want := range map[string]int{
		"0":          0,
		"7":          7,
		"00012":      12,
		"0000":       0,
		"1234567890": 1234567890,
		"2147483647": api.Far - 1,
		"2147483648": api.Far,
		"2147483649": api.Far,
		"2147483650": api.Far,
		"4294967296": api.Far,
		"9999999999": api.Far,

		// Those that wrap round to small numbers in 64 and 32 bits.
		"18446744073709551617":                     api.Far,
		"9223372036854775808":                      api.Far,
		"21474836480":                              api.Far,
		strings.Repeat("9", 100000):                api.Far,
		strings.Repeat("0", 100000) + "2147483647": api.Far - 1,
		"1" + strings.Repeat("0", 100000):          api.Far,
	} {
		if n, ok := sign.Number(s); !ok || n != want {
			t.Errorf("Number(%.40q): %d, %t", s, n, ok)
		}
	}
	for _, s := range []string{"", " ", "-1", "+1", " 1", "1 ", "1,2", "1.5", "1e3", "0x1", "1_0", "a", `"1"`, "٣", "1\x00", "99999999999x", "2147483648 "} {
		if n, ok := sign.Number(s); ok || n != 0 {
			t.Errorf("Number(%q): %d, %t", s, n, ok)
		}
	}
	eachByte(func(c byte, s string) {
		want := '0' <= c && c <= '9'
		for _, text := range []string{s, "1" + s, s + "1"} {
			if _, ok := sign.Number(text); ok != want {
				t.Errorf("Number(%q): %t", text, ok)
			}
		}
	})
}

func TestNumberOfEachLength(t *testing.T) {
	far := big.NewInt(api.Far)
	for _, digits := range []string{"1", "9", "21474836", "0123456789", "9876543210"} {
		for length := 1; length < 60; length++ {
			s := strings.Repeat(digits, length)[:length]
			want, _ := new(big.Int).SetString(s, 10)
			if want.Cmp(far) > 0 {
				want = far
			}
			if n, ok := sign.Number(s); !ok || int64(n) != want.Int64() {
				t.Errorf("Number(%q): %d, %t", s, n, ok)
			}
		}
	}
}

// TestNoPanic gives every call every text of up to two bytes, also within
// quotes that may be left open.
func TestNoPanic(t *testing.T) {
	eachByte(func(_ byte, a string) {
		eachByte(func(_ byte, b string) {
			for _, s := range []string{a, a + b, `"` + a + b, a + b + `"`, `"\` + a + b} {
				sign.Token(s)
				sign.Lower(s)
				sign.Same(s, a)
				sign.Trim(s)
				sign.List(s)
				sign.Unquote(s)
				sign.Number(s)
			}
		})
	})
}
