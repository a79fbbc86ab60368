package lex

import (
	"math/rand"
	"strings"
	"testing"

	"acequia/api"
)

func name(s string, at int) api.Token { return api.Token{Kind: api.NameT, Text: s, At: at} }
func number(n, at int) api.Token      { return api.Token{Kind: api.NumberT, N: n, At: at} }
func mark(s string, at int) api.Token { return api.Token{Kind: api.SignT, Text: s, At: at} }

const signs = "{}();,=:.<>!+-*/"

// P3.1: tokens with their places.
func TestLex(t *testing.T) {
	long := strings.Repeat("a", 32)
	for src, want := range map[string][]api.Token{
		"":                         nil,
		" \t\r\n":                  nil,
		"// only a comment":        nil,
		"sum 30;":                  {name("sum", 0), number(30, 4), mark(";", 6)},
		"a // b":                   {name("a", 0)},
		"a//b\nc":                  {name("a", 0), name("c", 5)},
		"a/b":                      {name("a", 0), mark("/", 1), name("b", 2)},
		"/ / ///":                  {mark("/", 0), mark("/", 2)},
		"B_12=0":                   {name("B_12", 0), mark("=", 4), number(0, 5)},
		"1099511627776":            {number(1<<40, 0)},
		"12a":                      {number(12, 0), name("a", 2)},
		"// \xff\x00 ä\n<!>":       {mark("<", 9), mark("!", 10), mark(">", 11)},
		long:                       {name(long, 0)},
		strings.Repeat(" ", 65536): nil,
	} {
		l, at, e := Lex(src)
		if e != api.OK || at != 0 || !Same(l, want) {
			t.Errorf("Lex(%.20q) = %v, %d, %v", src, l, at, e)
			continue
		}
		for i := range l {
			if l[i].At != want[i].At {
				t.Errorf("Lex(%.20q): place %d", src, l[i].At)
			}
		}
	}
	if l, _, e := Lex(signs); e != api.OK || len(l) != len(signs) {
		t.Errorf("signs: %v", l)
	}
}

// P3.1: the place of the first wrong token.
func TestLexWrong(t *testing.T) {
	for src, want := range map[string]int{
		"007": 0, "00": 0, "a 01": 2, "a $": 2, "1099511627777": 0, "99999999999999999999999": 0,
		"_a": 0, "a\x00": 1, "aä": 1, "  \v": 2, "x\f": 1, "a // $\n\t#": 8, "[": 0, "a_b@": 3,
		"ab " + strings.Repeat("a", 33): 3, strings.Repeat("a", 32) + " " + strings.Repeat("b_1", 11): 33,
	} {
		if l, at, e := Lex(src); e != api.ErrText || at != want || len(l) != 0 {
			t.Errorf("Lex(%q) = %v, %d, %v", src, l, at, e)
		}
	}
	if l, at, e := Lex(strings.Repeat("$", 65537)); e != api.ErrLimit || at != 0 || len(l) != 0 {
		t.Error("a source that is too long")
	}
}

// P3.1: every byte outside names, numbers, signs and white space begins no token.
func TestLexBytes(t *testing.T) {
	const begins = "ABCDEFGHIJKLMNOPQRSTUVWXYZabcdefghijklmnopqrstuvwxyz0123456789 \t\r\n" + signs
	for c := range 256 {
		src := string([]byte{byte(c)})
		_, _, e := Lex(src)
		if (e == api.OK) != strings.Contains(begins, src) {
			t.Errorf("the byte %d: %v", c, e)
		}
	}
}

// P3.2: texts of valid tokens, whatever their places.
func TestText(t *testing.T) {
	l, _, _ := Lex("a=1")
	l[0].At = -7
	if src, e := Text(l); e != api.OK || src != "a = 1" {
		t.Errorf("%q, %v", src, e)
	}
	if src, e := Text(nil); e != api.OK || src != "" {
		t.Errorf("%q, %v", src, e)
	}
	for _, x := range []api.Token{
		{}, {Kind: 4, Text: "a"}, {Kind: api.NameT}, {Kind: api.NameT, Text: "1"}, {Kind: api.NameT, Text: "a", N: 1},
		{Kind: api.NumberT, Text: "1", N: 1}, number(-1, 0), number(1<<40+1, 0), mark("", 0), mark("==", 0), mark("a", 0),
		{Kind: api.SignT, Text: "=", N: 1}, name(strings.Repeat("a", 33), 0), mark("\xff", 0),
	} {
		if src, e := Text([]api.Token{name("a", 0), x}); e != api.ErrText || src != "" {
			t.Errorf("%v: %q, %v", x, src, e)
		}
	}
}

// P3.2: names, and equality without places.
func TestNameAndSame(t *testing.T) {
	for s, want := range map[string]bool{
		"B_12": true, "a": true, "Z9": true, strings.Repeat("a", 32): true,
		"": false, "_12": false, "1a": false, "a-b": false, "a b": false, "é": false, strings.Repeat("a", 33): false,
	} {
		if Name(s) != want {
			t.Errorf("Name(%q)", s)
		}
	}
	a := []api.Token{{Kind: 9, Text: "?", N: -1, At: 3}}
	b := []api.Token{{Kind: 9, Text: "?", N: -1, At: 4}}
	if !Same(a, b) || Same(a, nil) || !Same(nil, []api.Token{}) || Same(a, []api.Token{{Kind: 9, Text: "?"}}) {
		t.Error("Same")
	}
}

// P3.3: there and back, rising places, joined sources, and the source before an error.
func TestConsequences(t *testing.T) {
	r := rand.New(rand.NewSource(3))
	const bytes = "aZ_09 \n\t/$=;{}\xc3."
	random := func() string {
		b := make([]byte, r.Intn(12))
		for i := range b {
			b[i] = bytes[r.Intn(len(bytes))]
		}
		return string(b)
	}
	for range 20000 {
		a, b := random(), random()
		la, at, e := Lex(a)
		if e != api.OK {
			if _, _, e := Lex(a[:at]); e != api.OK {
				t.Fatalf("%q has no tokens before its error", a)
			}
			continue
		}
		src, _ := Text(la)
		if again, _, e := Lex(src); e != api.OK || !Same(again, la) {
			t.Fatalf("%q is written as %q", a, src)
		}
		for i, x := range la {
			text, _ := Text(la[i : i+1])
			if !strings.HasPrefix(a[x.At:], text) || i > 0 && x.At <= la[i-1].At {
				t.Fatalf("%q: the place %d", a, x.At)
			}
		}
		if lb, _, e := Lex(b); e == api.OK {
			if both, _, e := Lex(a + "\n" + b); e != api.OK || !Same(both, append(la, lb...)) {
				t.Fatalf("%q and %q", a, b)
			}
		}
	}
}
