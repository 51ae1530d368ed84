package scan_test

import (
	"bytes"
	"iter"
	"math"
	"regexp"
	"slices"
	"strconv"
	"strings"
	"testing"

	"clew/api"
	"clew/ast"
	"clew/class"
	"clew/fold"
	"clew/rset"
	"clew/scan"
	"clew/sym"
)

// top is the greatest number that a set can have.
const top = api.MaxSym

// rr are ranges, by their ends.
func rr(ends ...int) []rset.Range {
	var l []rset.Range
	for i := 0; i+1 < len(ends); i += 2 {
		l = append(l, rset.Range{Lo: ends[i], Hi: ends[i+1]})
	}
	return l
}

// texts are all that are made of up to so many of some pieces.
func texts(pieces []string, most int) iter.Seq[string] {
	return func(yield func(string) bool) {
		var more func(p string, left int) bool
		more = func(p string, left int) bool {
			if !yield(p) {
				return false
			}
			if left == 0 {
				return true
			}
			for _, x := range pieces {
				if !more(p+x, left-1) {
					return false
				}
			}
			return true
		}
		more("", most)
	}
}

// signs are a text's bytes, one by one.
func signs(p string) []string {
	var l []string
	for i := range len(p) {
		l = append(l, p[i:i+1])
	}
	return l
}

// outside are places that a text of so many bytes hasn't.
func outside(many int) []int {
	return []int{math.MinInt, math.MinInt + 1, -1 << 32, -4096, -2, -1, many, many + 1, many + 2, 4096 + many, 1<<32 + many, math.MaxInt - 1, math.MaxInt}
}

func equal(a, b scan.Item) bool {
	return a.Kind == b.Kind && a.To == b.To && a.Num == b.Num && a.Name == b.Name && slices.Equal(a.Set, b.Set)
}

// rule is a row of the chapter's table: what it finds, whether it is one outside a class, and within, and what it makes of what is between its first parentheses.
type rule struct {
	finds          *regexp.Regexp
	outside, inner bool
	makes          func(found string) (scan.Item, bool)
}

var (
	controls = strings.NewReplacer("n", "10", "t", "9", "r", "13", "f", "12", "v", "11", "a", "7", "e", "27")
	holds    = strings.NewReplacer("A", "1", "Z", "2", "z", "3", "b", "6", "B", "7")
)

var rules = []rule{
	{regexp.MustCompile(`^\\([ntrfvae])`), true, true, func(s string) (scan.Item, bool) { return numbered(scan.Lit, controls.Replace(s), 10), true }},
	{regexp.MustCompile(`^\\x([0-9a-fA-F]{2})`), true, true, func(s string) (scan.Item, bool) { return numbered(scan.Lit, s, 16), true }},
	{regexp.MustCompile(`^\\x\{([0-9a-fA-F]{1,6})\}`), true, true, func(s string) (scan.Item, bool) { x := numbered(scan.Lit, s, 16); return x, sym.Is(x.Num) }},
	{regexp.MustCompile(`^\\([dwsDWS])`), true, true, func(s string) (scan.Item, bool) {
		l, ok := class.Of(s[0])
		return scan.Item{Kind: scan.Cls, Set: l}, ok
	}},
	{regexp.MustCompile(`^\\([AZzbB])`), true, false, func(s string) (scan.Item, bool) { return numbered(scan.Hld, holds.Replace(s), 10), true }},
	{regexp.MustCompile(`^\\(b)`), false, true, func(s string) (scan.Item, bool) { return scan.Item{Kind: scan.Lit, Num: 8}, true }},
	{regexp.MustCompile(`^\\([1-9][0-9]?)`), true, false, func(s string) (scan.Item, bool) { return numbered(scan.Ref, s, 10), true }},
	{regexp.MustCompile(`^\\k<([A-Za-z_][A-Za-z_0-9]{0,31})>`), true, false, func(s string) (scan.Item, bool) { return scan.Item{Kind: scan.Key, Name: s}, true }},
	{regexp.MustCompile(`(?s)^\\([^A-Za-z0-9])`), true, true, func(s string) (scan.Item, bool) {
		x, _ := sym.At([]byte(s), 0)
		return scan.Item{Kind: scan.Lit, Num: x}, true
	}},
}

// numbered is an item with a number.
func numbered(kind int, digits string, base int) scan.Item {
	n, _ := strconv.ParseInt(digits, base, 64)
	return scan.Item{Kind: kind, Num: int(n)}
}

// modelled is what the rules make of a text, from its beginning on.
func modelled(p string, inner bool) (scan.Item, api.Errno) {
	if !strings.HasPrefix(p, `\`) {
		return scan.Item{}, api.ErrRange
	}
	for _, r := range rules {
		found := r.finds.FindStringSubmatch(p)
		if found == nil || inner && !r.inner || !inner && !r.outside {
			continue
		}
		if x, ok := r.makes(found[1]); ok {
			x.To = len(found[0])
			return x, api.OK
		}
	}
	if !inner && strings.HasPrefix(p, `\k`) {
		return scan.Item{}, api.ErrName
	}
	return scan.Item{}, api.ErrEscape
}

// reads holds what Escape and Inner tell of a text, and of the same one behind others, against the model.
func reads(t *testing.T, p string) {
	t.Helper()
	for _, ahead := range []string{"", `\`, "a\xc3"} {
		for _, inner := range []bool{false, true} {
			call := scan.Escape
			if inner {
				call = scan.Inner
			}
			want, e := modelled(p, inner)
			if e == api.OK {
				want.To += len(ahead)
			}
			x, f := call([]byte(ahead+p), len(ahead))
			if f != e || !equal(x, want) {
				t.Fatalf("%q at %d, within a class: %t: %+v, %d, want %+v, %d", ahead+p, len(ahead), inner, x, f, want, e)
			}
		}
	}
}

func TestConstants(t *testing.T) {
	for i, x := range []int{scan.Lit, scan.Cls, scan.Hld, scan.Ref, scan.Key} {
		if x != i+1 {
			t.Errorf("kind %d is %d", i+1, x)
		}
	}
}

// P7.1: Escape and Inner

func TestEscape(t *testing.T) {
	for p, want := range map[string]scan.Item{
		`\n`: {Kind: scan.Lit, Num: 10, To: 2}, `\t`: {Kind: scan.Lit, Num: 9, To: 2}, `\r`: {Kind: scan.Lit, Num: 13, To: 2}, `\f`: {Kind: scan.Lit, Num: 12, To: 2},
		`\v`: {Kind: scan.Lit, Num: 11, To: 2}, `\a`: {Kind: scan.Lit, Num: 7, To: 2}, `\e`: {Kind: scan.Lit, Num: 27, To: 2}, `\n}`: {Kind: scan.Lit, Num: 10, To: 2},
		// The chapter's example.
		`\x{e9}`: {Kind: scan.Lit, Num: 0xe9, To: 6},
		`\x00`:   {Kind: scan.Lit, Num: 0, To: 4}, `\xfF`: {Kind: scan.Lit, Num: 0xff, To: 4}, `\x414`: {Kind: scan.Lit, Num: 0x41, To: 4}, `\x9fg`: {Kind: scan.Lit, Num: 0x9f, To: 4},
		`\x{0}`: {Kind: scan.Lit, Num: 0, To: 5}, `\x{00004f}1`: {Kind: scan.Lit, Num: 0x4f, To: 10}, `\x{10fffF}}`: {Kind: scan.Lit, Num: 0x10ffff, To: 10}, `\x{110080}`: {Kind: scan.Lit, Num: 0x110080, To: 10},
		`\d`: {Kind: scan.Cls, Set: rr(48, 57), To: 2}, `\w+`: {Kind: scan.Cls, Set: rr(48, 57, 65, 90, 95, 95, 97, 122), To: 2}, `\s`: {Kind: scan.Cls, Set: rr(9, 13, 32, 32), To: 2},
		`\D`: {Kind: scan.Cls, Set: rr(0, 47, 58, top), To: 2}, `\W`: {Kind: scan.Cls, Set: rr(0, 47, 58, 64, 91, 94, 96, 96, 123, top), To: 2}, `\S`: {Kind: scan.Cls, Set: rr(0, 8, 14, 31, 33, top), To: 2},
		`\A`: {Kind: scan.Hld, Num: ast.Begin, To: 2}, `\Z`: {Kind: scan.Hld, Num: ast.End, To: 2}, `\z`: {Kind: scan.Hld, Num: ast.Last, To: 2}, `\b`: {Kind: scan.Hld, Num: ast.Word, To: 2}, `\B`: {Kind: scan.Hld, Num: ast.NotWord, To: 2},
		`\1`: {Kind: scan.Ref, Num: 1, To: 2}, `\9a`: {Kind: scan.Ref, Num: 9, To: 2}, `\10`: {Kind: scan.Ref, Num: 10, To: 3}, `\99`: {Kind: scan.Ref, Num: 99, To: 3}, `\123`: {Kind: scan.Ref, Num: 12, To: 3}, `\5{2}`: {Kind: scan.Ref, Num: 5, To: 2},
		`\k<x>`: {Kind: scan.Key, Name: "x", To: 5}, `\k<_>>`: {Kind: scan.Key, Name: "_", To: 5}, `\k<Ab_9>`: {Kind: scan.Key, Name: "Ab_9", To: 8},
		`\\`: {Kind: scan.Lit, Num: '\\', To: 2}, `\\n`: {Kind: scan.Lit, Num: '\\', To: 2}, `\_`: {Kind: scan.Lit, Num: '_', To: 2}, `\ `: {Kind: scan.Lit, Num: ' ', To: 2}, `\]`: {Kind: scan.Lit, Num: ']', To: 2},
		"\\\x00": {Kind: scan.Lit, Num: 0, To: 2}, "\\\n": {Kind: scan.Lit, Num: 10, To: 2}, "\\\xc3\xa9x": {Kind: scan.Lit, Num: 0xe9, To: 3}, "\\\u212a": {Kind: scan.Lit, Num: 0x212a, To: 4}, "\\\U0010ffff": {Kind: scan.Lit, Num: 0x10ffff, To: 5},
		// Bytes outside any encoding.
		"\\\xff": {Kind: scan.Lit, Num: 0x1100ff, To: 2}, "\\\xc3": {Kind: scan.Lit, Num: 0x1100c3, To: 2}, "\\\xc3a": {Kind: scan.Lit, Num: 0x1100c3, To: 2}, "\\\xed\xa0\x80": {Kind: scan.Lit, Num: 0x1100ed, To: 2},
		// Symbols that would be letters if they were cut to bytes: d, w, n, A and k.
		"\\\u0164": {Kind: scan.Lit, Num: 0x164, To: 3}, "\\\u0177": {Kind: scan.Lit, Num: 0x177, To: 3}, "\\\u016e": {Kind: scan.Lit, Num: 0x16e, To: 3}, "\\\u0141": {Kind: scan.Lit, Num: 0x141, To: 3}, "\\\u016b": {Kind: scan.Lit, Num: 0x16b, To: 3},
		// A digit that isn't one of ASCII.
		"\\\u0661": {Kind: scan.Lit, Num: 0x661, To: 3},
	} {
		if x, e := scan.Escape([]byte(p), 0); e != api.OK || !equal(x, want) {
			t.Errorf("Escape(%q) = %+v, %d, want %+v", p, x, e, want)
		}
	}
}

func TestEscapeWrong(t *testing.T) {
	long := strings.Repeat("a", 33)
	for p, want := range map[string]api.Errno{
		"": api.ErrRange, "n": api.ErrRange, "a\\": api.ErrRange, "/n": api.ErrRange,
		`\`: api.ErrEscape, `\0`: api.ErrEscape, `\01`: api.ErrEscape, `\q`: api.ErrEscape, `\N`: api.ErrEscape, `\X41`: api.ErrEscape, `\c`: api.ErrEscape, `\u`: api.ErrEscape, `\K<a>`: api.ErrEscape,
		`\x`: api.ErrEscape, `\x4`: api.ErrEscape, `\x4g`: api.ErrEscape, `\xg4`: api.ErrEscape, `\x-1`: api.ErrEscape, `\x+1`: api.ErrEscape, `\x 41`: api.ErrEscape, `\x_1`: api.ErrEscape, `\x4_`: api.ErrEscape,
		`\x{`: api.ErrEscape, `\x{}`: api.ErrEscape, `\x{4`: api.ErrEscape, `\x{4g}`: api.ErrEscape, `\x{ 4}`: api.ErrEscape, `\x{4 }`: api.ErrEscape, `\x{-4}`: api.ErrEscape, `\x{+4}`: api.ErrEscape, `\x{1_0}`: api.ErrEscape, `\x{0x4}`: api.ErrEscape,
		`\x{0000041}`: api.ErrEscape, `\x{1000041}`: api.ErrEscape, `\x{100000000000041}`: api.ErrEscape, `\x(41)`: api.ErrEscape,
		`\x{d800}`: api.ErrEscape, `\x{dfff}`: api.ErrEscape, `\x{110000}`: api.ErrEscape, `\x{11007f}`: api.ErrEscape, `\x{110100}`: api.ErrEscape, `\x{ffffff}`: api.ErrEscape,
		`\k`: api.ErrName, `\kx`: api.ErrName, `\k<`: api.ErrName, `\k<>`: api.ErrName, `\k<1>`: api.ErrName, `\k<a`: api.ErrName, `\k<a-b>`: api.ErrName, `\k< a>`: api.ErrName, `\k<a >`: api.ErrName, `\k{a}`: api.ErrName, `\k'a'`: api.ErrName, `\k <a>`: api.ErrName,
		`\k<` + long + `>`: api.ErrName, "\\k<\u00e9>": api.ErrName, "\\k<a\u00e9>": api.ErrName, "\\k<a\xff>": api.ErrName,
	} {
		if x, e := scan.Escape([]byte(p), 0); e != want || !equal(x, scan.Item{}) {
			t.Errorf("Escape(%q) = %+v, %d, want %d", p, x, e, want)
		}
	}
}

func TestEscapeOutside(t *testing.T) {
	for _, p := range []string{"", `\n`, `a\`, `\\\\`} {
		for _, i := range outside(len(p)) {
			if x, e := scan.Escape([]byte(p), i); e != api.ErrRange || !equal(x, scan.Item{}) {
				t.Errorf("Escape(%q, %d) = %+v, %d", p, i, x, e)
			}
			if x, e := scan.Inner([]byte(p), i); e != api.ErrRange || !equal(x, scan.Item{}) {
				t.Errorf("Inner(%q, %d) = %+v, %d", p, i, x, e)
			}
		}
	}
}

func TestInner(t *testing.T) {
	if x, e := scan.Inner([]byte(`[\b]`), 1); e != api.OK || !equal(x, scan.Item{Kind: scan.Lit, Num: 8, To: 3}) {
		t.Errorf("a b makes %+v, %d", x, e)
	}
	for _, p := range []string{`\A`, `\Z`, `\z`, `\B`, `\0`, `\1`, `\12`, `\k`, `\k<a>`, `\k<1>`, `\`, `\q`, `\x{}`, `\x{d800}`, `\x4`} {
		if x, e := scan.Inner([]byte(p), 0); e != api.ErrEscape || !equal(x, scan.Item{}) {
			t.Errorf("Inner(%q) = %+v, %d", p, x, e)
		}
	}
	for _, p := range []string{"", "b", "a\\b", "]"} {
		if x, e := scan.Inner([]byte(p), 0); e != api.ErrRange || !equal(x, scan.Item{}) {
			t.Errorf("Inner(%q) = %+v, %d", p, x, e)
		}
	}
	// What makes a Lit or a Cls outside makes the same within.
	for _, p := range []string{`\n`, `\t`, `\r`, `\f`, `\v`, `\a`, `\e`, `\x41`, `\x{e9}`, `\d`, `\D`, `\w`, `\W`, `\s`, `\S`, `\]`, `\-`, `\^`, `\[`, "\\\xff", "\\\u212a"} {
		out, e := scan.Escape([]byte(p), 0)
		in, f := scan.Inner([]byte(p), 0)
		if e != api.OK || f != api.OK || !equal(in, out) {
			t.Errorf("Inner(%q) = %+v, %d, and Escape %+v, %d", p, in, f, out, e)
		}
	}
}

// Behind a backslash each byte, and each two.
func TestEscapeBytes(t *testing.T) {
	reads(t, `\`)
	for a := range 256 {
		reads(t, "\\"+string([]byte{byte(a)}))
		for b := range 256 {
			reads(t, "\\"+string([]byte{byte(a), byte(b)}))
		}
	}
}

// Behind a backslash each symbol, and each number that isn't one in digits.
func TestEscapeSymbols(t *testing.T) {
	for x := 0; x <= top+300; x++ {
		digits := strconv.FormatInt(int64(x), 16)
		want := api.ErrEscape
		if sym.Is(x) {
			want = api.OK
		}
		if item, e := scan.Escape([]byte(`\x{`+digits+`}`), 0); e != want || e == api.OK && !equal(item, scan.Item{Kind: scan.Lit, Num: x, To: 4 + len(digits)}) {
			t.Fatalf("of the digits %s: %+v, %d", digits, item, e)
		}
		if b, e := sym.Put(x); e == api.OK && x >= 128 {
			if item, e := scan.Escape(append([]byte{'\\'}, b...), 0); e != api.OK || !equal(item, scan.Item{Kind: scan.Lit, Num: x, To: 1 + len(b)}) {
				t.Fatalf("of the bytes %x: %+v, %d", b, item, e)
			}
		}
	}
}

func TestEscapeCodes(t *testing.T) {
	for p := range texts(signs("x{}0dDgG"), 5) {
		reads(t, `\`+p)
		reads(t, `\x`+p)
		reads(t, `\x{`+p)
	}
	// How many digits there are, and which number.
	for _, digits := range []string{"0", "f", "D7fF", "d800", "dfff", "E000", "10FFff", "110000", "11007f", "110080", "1100fF", "110100", "ffffff"} {
		for many := range 9 {
			p := `\x{` + strings.Repeat("0", many) + digits
			reads(t, p)
			reads(t, p+"}")
			reads(t, p+"}}")
			reads(t, p+" }")
		}
	}
}

func TestEscapeRefs(t *testing.T) {
	for p := range texts(signs("0123456789a:/"), 3) {
		reads(t, `\`+p)
	}
}

func TestEscapeKeys(t *testing.T) {
	for p := range texts(signs("k<>_a0-\xc3\xa9"), 4) {
		reads(t, `\`+p)
		reads(t, `\k`+p)
		reads(t, `\k<`+p)
	}
	for many := range 40 {
		name := strings.Repeat("y", many)
		reads(t, `\k<`+name+`>`)
		reads(t, `\k<_`+name+`>`)
		reads(t, `\k<`+name+`1`)
	}
}

// P7.1: Name

// names is what a regular expression tells of a name at a text's beginning.
func names(p string) (string, int, api.Errno) {
	if found := nameAt.FindStringSubmatch(p); found != nil {
		return found[1], len(found[0]), api.OK
	}
	return "", 0, api.ErrName
}

var nameAt = regexp.MustCompile(`^([A-Za-z_][A-Za-z_0-9]{0,31})>`)

// isNamed holds what Name tells of a text, and of the same one behind others, against the model.
func isNamed(t *testing.T, p string) {
	t.Helper()
	for _, ahead := range []string{"", "(?<", "x"} {
		name, to, e := names(p)
		if e == api.OK {
			to += len(ahead)
		}
		if n, at, f := scan.Name([]byte(ahead+p), len(ahead)); n != name || at != to || f != e {
			t.Fatalf("Name(%q, %d) = %q, %d, %d, want %q, %d, %d", ahead+p, len(ahead), n, at, f, name, to, e)
		}
	}
}

func TestName(t *testing.T) {
	thirtyTwo := strings.Repeat("aZ_9", 8)
	for p, want := range map[string]string{"a>": "a", "_>": "_", "Z9>": "Z9", "a_1>b>": "a_1", thirtyTwo + ">": thirtyTwo, "x>>": "x"} {
		if name, to, e := scan.Name([]byte(p), 0); name != want || to != len(want)+1 || e != api.OK {
			t.Errorf("Name(%q) = %q, %d, %d", p, name, to, e)
		}
	}
	for _, p := range []string{"", ">", "a", "1>", "1a>", "a b>", "a-b>", "-a>", " a>", "a >", "<a>", "a<", "a\n>", "\u00e9>", "a\u00e9>", "\xff>", "a\xff>", "a\x00>", thirtyTwo, thirtyTwo + "a>", thirtyTwo + thirtyTwo + ">", strings.Repeat("a", 70000) + ">"} {
		if name, to, e := scan.Name([]byte(p), 0); name != "" || to != 0 || e != api.ErrName {
			t.Errorf("Name(%q) = %q, %d, %d", p, name, to, e)
		}
	}
	for _, p := range []string{"", "a>", "a>b>"} {
		for _, i := range outside(len(p)) {
			if name, to, e := scan.Name([]byte(p), i); name != "" || to != 0 || e != api.ErrName {
				t.Errorf("Name(%q, %d) = %q, %d, %d", p, i, name, to, e)
			}
		}
	}
}

func TestNameBytes(t *testing.T) {
	for a := range 256 {
		isNamed(t, string([]byte{byte(a)}))
		isNamed(t, string([]byte{'a', byte(a), '>'}))
		for b := range 256 {
			isNamed(t, string([]byte{byte(a), byte(b)}))
			isNamed(t, string([]byte{byte(a), byte(b), '>'}))
		}
	}
	for p := range texts(signs("a_0>-"), 6) {
		isNamed(t, p)
	}
	for many := range 70 {
		isNamed(t, "a"+strings.Repeat("0", many)+">")
		isNamed(t, "a"+strings.Repeat("0", many))
	}
}

// P7.2

var countAt = regexp.MustCompile(`^(?:([*+?])|\{0*([0-9]+)(?:(,)0*([0-9]*))?\})([?+]?)`)

// counted is what a regular expression tells of a quantifier at a text's beginning.
func counted(p string) (scan.Quant, bool, api.Errno) {
	found := countAt.FindStringSubmatch(p)
	if found == nil {
		return scan.Quant{}, false, api.OK
	}
	q := scan.Quant{To: len(found[0]), Mode: map[string]int{"": 0, "?": 1, "+": 2}[found[5]]}
	switch {
	case found[1] == "*":
		q.Max = -1
	case found[1] == "+":
		q.Min, q.Max = 1, -1
	case found[1] == "?":
		q.Max = 1
	case found[3] == "":
		q.Min = counts(found[2])
		q.Max = q.Min
	case strings.HasSuffix(strings.TrimRight(found[0], "?+"), ",}"):
		q.Min, q.Max = counts(found[2]), -1
	default:
		q.Min, q.Max = counts(found[2]), counts(found[4])
	}
	if q.Min > 1000 || q.Max > 1000 || q.Max == 0 || q.Max > 0 && q.Max < q.Min {
		return scan.Quant{}, false, api.ErrCount
	}
	return q, true, api.OK
}

// counts is the number of some digits; one above all that may be, where it is too great for that.
func counts(digits string) int {
	if len(digits) > 9 {
		return 1 << 30
	}
	n, _ := strconv.Atoi("0" + digits)
	return n
}

// isCounted holds what Count tells of a text, and of the same one behind others, against the model.
func isCounted(t *testing.T, p string) {
	t.Helper()
	for _, ahead := range []string{"", "a", "{1"} {
		want, has, e := counted(p)
		if has {
			want.To += len(ahead)
		}
		if q, ok, f := scan.Count([]byte(ahead+p), len(ahead)); q != want || ok != has || f != e {
			t.Fatalf("Count(%q, %d) = %+v, %t, %d, want %+v, %t, %d", ahead+p, len(ahead), q, ok, f, want, has, e)
		}
	}
}

func TestCount(t *testing.T) {
	for p, want := range map[string]scan.Quant{
		"*": {Max: -1, To: 1}, "+": {Min: 1, Max: -1, To: 1}, "?": {Max: 1, To: 1},
		"*?": {Max: -1, Mode: 1, To: 2}, "+?": {Min: 1, Max: -1, Mode: 1, To: 2}, "??": {Max: 1, Mode: 1, To: 2}, "*+": {Max: -1, Mode: 2, To: 2}, "++": {Min: 1, Max: -1, Mode: 2, To: 2}, "?+": {Max: 1, Mode: 2, To: 2},
		"**": {Max: -1, To: 1}, "+*": {Min: 1, Max: -1, To: 1}, "?{2}": {Max: 1, To: 1}, "*?+": {Max: -1, Mode: 1, To: 2}, "+++": {Min: 1, Max: -1, Mode: 2, To: 2}, "* ?": {Max: -1, To: 1},
		"{1}": {Min: 1, Max: 1, To: 3}, "{0,}": {Max: -1, To: 4}, "{0,1}": {Max: 1, To: 5}, "{3,3}": {Min: 3, Max: 3, To: 5}, "{7,}": {Min: 7, Max: -1, To: 4}, "{007}": {Min: 7, Max: 7, To: 5}, "{2,10}?": {Min: 2, Max: 10, Mode: 1, To: 7},
		"{1000}": {Min: 1000, Max: 1000, To: 6}, "{1000,}": {Min: 1000, Max: -1, To: 7}, "{1000,1000}": {Min: 1000, Max: 1000, To: 11}, "{0,1000}": {Max: 1000, To: 8}, "{2}?": {Min: 2, Max: 2, Mode: 1, To: 4}, "{2}{3}": {Min: 2, Max: 2, To: 3},
		// The chapter's example.
		"{2,}+": {Min: 2, Max: -1, Mode: 2, To: 5},
		"{" + strings.Repeat("0", 100000) + "12}":            {Min: 12, Max: 12, To: 100004},
		"{0," + strings.Repeat("0", 100000) + "1}?":          {Max: 1, Mode: 1, To: 100006},
		"{1," + strings.Repeat("0", 100000) + "00999}+{1,2}": {Min: 1, Max: 999, Mode: 2, To: 100010},
	} {
		if q, ok, e := scan.Count([]byte(p), 0); q != want || !ok || e != api.OK {
			t.Errorf("Count(%q) = %+v, %t, %d", p, q, ok, e)
		}
	}
}

func TestCountNone(t *testing.T) {
	for _, p := range []string{
		"", "a", "a*", "}", "{", "{}", "{,}", "{,2}", "{2", "{2,", "{2,3", "{2,3,}", "{2,,3}", "{2;3}", "{a}", "{2a}", "{a2}", "{2,a}", "{2,3a}", "{ 2}", "{2 }", "{2, 3}", "{2 ,3}", "{-1}", "{+1}", "{1,-1}", "{1,+2}", "{1_0}", "{0x1}", "{1.0}", "{{2}}", "{2)", "(2}",
		"{1001", "{2,1", "{9999,a}", "{2,1 }", "{\uff12}", "{2\xff}", "\xff", "\u00d7", "\x00", "{" + strings.Repeat("9", 100000),
	} {
		if q, ok, e := scan.Count([]byte(p), 0); q != (scan.Quant{}) || ok || e != api.OK {
			t.Errorf("Count(%q) = %+v, %t, %d", p, q, ok, e)
		}
	}
	for _, p := range []string{"", "*", "{2}+", "?????"} {
		for _, i := range outside(len(p)) {
			if q, ok, e := scan.Count([]byte(p), i); q != (scan.Quant{}) || ok || e != api.OK {
				t.Errorf("Count(%q, %d) = %+v, %t, %d", p, i, q, ok, e)
			}
		}
	}
}

func TestCountWrong(t *testing.T) {
	for _, p := range []string{
		"{0}", "{00}", "{0,0}", "{1,0}", "{5,000}", "{2,1}", "{1000,999}", "{10,9}?", "{0}+", "{0,0}?",
		"{1001}", "{1001,}", "{0,1001}", "{1,1001}", "{1001,1001}", "{1001,1}", "{1001,1002}", "{1001,0}", "{9999,}?",
		"{4294967296}", "{4294967297}", "{1,4294967298}", "{4294967297,}", "{18446744073709551617}", "{18446744073709551617,}", "{1,18446744073709551617}", "{9223372036854775807,9223372036854775808}",
		"{" + strings.Repeat("9", 100000) + "}", "{1," + strings.Repeat("9", 100000) + "}", "{" + strings.Repeat("9", 100000) + ",}",
	} {
		if q, ok, e := scan.Count([]byte(p), 0); q != (scan.Quant{}) || ok || e != api.ErrCount {
			t.Errorf("Count(%q) = %+v, %t, %d", p, q, ok, e)
		}
	}
}

func TestCountTexts(t *testing.T) {
	for a := range 256 {
		isCounted(t, string([]byte{byte(a)}))
		isCounted(t, "{"+string([]byte{byte(a)})+"}")
		isCounted(t, "{1"+string([]byte{byte(a)})+"}")
		isCounted(t, "{1,"+string([]byte{byte(a)})+"}")
		for b := range 256 {
			isCounted(t, string([]byte{byte(a), byte(b)}))
			isCounted(t, "{3"+string([]byte{byte(a), byte(b)}))
		}
	}
	for p := range texts(signs("{},019*+?"), 5) {
		isCounted(t, p)
		isCounted(t, "{"+p)
	}
}

func TestCountNumbers(t *testing.T) {
	edges := []int{0, 1, 2, 3, 9, 10, 99, 100, 255, 256, 998, 999, 1000, 1001, 1002, 1024, 9999, 10000, 65536, 65537, 1 << 31, 1<<32 + 1, math.MaxInt}
	for _, least := range edges {
		for _, behind := range []string{"}", ",}", "}?", ",}+", "}{", ",}*"} {
			isCounted(t, "{"+strconv.Itoa(least)+behind)
		}
		for _, most := range edges {
			isCounted(t, "{"+strconv.Itoa(least)+","+strconv.Itoa(most)+"}")
			isCounted(t, "{"+strconv.Itoa(least)+","+strconv.Itoa(most)+"}?")
		}
	}
	for n := range 1100 {
		isCounted(t, "{"+strconv.Itoa(n)+"}")
		isCounted(t, "{"+strconv.Itoa(n)+",}")
		isCounted(t, "{500,"+strconv.Itoa(n)+"}+")
	}
}

// P7.3

func TestClass(t *testing.T) {
	for p, want := range map[string][]rset.Range{
		"[a]": rr('a', 'a'), "[ab]": rr('a', 'b'), "[ba]": rr('a', 'b'), "[aa]": rr('a', 'a'), "[a-c]": rr('a', 'c'), "[a-a]": rr('a', 'a'), "[xa-cb-d]": rr('a', 'd', 'x', 'x'), "[^a]": rr(0, 'a'-1, 'b', top),
		// The chapter's example.
		"[^]a-c]": rr(0, ']'-1, ']'+1, 'a'-1, 'd', top),
		// What begins with a ].
		"[]]": rr(']', ']'), "[]a]": rr(']', ']', 'a', 'a'), "[^]]": rr(0, ']'-1, ']'+1, top), "[]-a]": rr(']', 'a'), "[]-]": rr('-', '-', ']', ']'), "[a\\]]": rr(']', ']', 'a', 'a'),
		// A ^ is one just at the head.
		"[^^]": rr(0, '^'-1, '^'+1, top), "[a^]": rr('^', '^', 'a', 'a'), "[\\^a]": rr('^', '^', 'a', 'a'), "[^-a]": rr(0, '-'-1, '-'+1, 'a'-1, 'b', top), "[^a^]": rr(0, '^'-1, '^'+1, 'a'-1, 'b', top),
		// What a - makes no range of.
		"[-]": rr('-', '-'), "[a-]": rr('-', '-', 'a', 'a'), "[-a]": rr('-', '-', 'a', 'a'), "[^-]": rr(0, '-'-1, '-'+1, top), "[\\d-z]": rr('-', '-', '0', '9', 'z', 'z'), "[a-c-e]": rr('-', '-', 'a', 'c', 'e', 'e'), "[[:digit:]-z]": rr('-', '-', '0', '9', 'z', 'z'), "[a\\-z]": rr('-', '-', 'a', 'a', 'z', 'z'), "[\\d-]": rr('-', '-', '0', '9'),
		// A - as an end.
		"[--0]": rr('-', '0'), "[+--]": rr('+', '-'), "[---]": rr('-', '-'), "[\\d--0]": rr('-', '9'), "[a-b--0]": rr('-', '0', 'a', 'b'), "[*-\\-]": rr('*', '-'),
		// Ends that a backslash makes.
		"[\\x41-\\x{44}]": rr('A', 'D'), "[\\b-\\n]": rr(8, 10), "[\\]-a]": rr(']', 'a'), "[A-\\]]": rr('A', ']'), "[\\\\-a]": rr('\\', 'a'), "[\\t-\\r]": rr(9, 13),
		// A [ that begins no name.
		"[[]": rr('[', '['), "[[a]": rr('[', '[', 'a', 'a'), "[[-a]": rr('[', 'a'), "[A-[]": rr('A', '['), "[A-[b]": rr('A', '[', 'b', 'b'), "[\\[:]": rr(':', ':', '[', '['), "[:[]": rr(':', ':', '[', '['), "[:a:]": rr(':', ':', 'a', 'a'), "[:alpha:]": rr(':', ':', 'a', 'a', 'h', 'h', 'l', 'l', 'p', 'p'), "[^:]": rr(0, ':'-1, ':'+1, top), "[[.a.]": rr('.', '.', '[', '[', 'a', 'a'),
		// Names.
		"[[:digit:]]": rr('0', '9'), "[[:^digit:]]": rr(0, '0'-1, '9'+1, top), "[^[:digit:]]": rr(0, '0'-1, '9'+1, top), "[^[:^digit:]]": rr('0', '9'), "[[:digit:]a-c]": rr('0', '9', 'a', 'c'), "[x[:blank:]y]": rr(9, 9, 32, 32, 'x', 'y'), "[[:upper:][:lower:]]": rr('A', 'Z', 'a', 'z'), "[][:digit:]]": rr('0', '9', ']', ']'), "[a-c[:digit:]]": rr('0', '9', 'a', 'c'),
		// Sets of backslashes.
		"[\\w-]": rr('-', '-', '0', '9', 'A', 'Z', '_', '_', 'a', 'z'), "[\\d\\s]": rr(9, 13, 32, 32, '0', '9'), "[\\d\\D]": rr(0, top), "[^\\d\\D]": nil, "[^\\W]": rr('0', '9', 'A', 'Z', '_', '_', 'a', 'z'), "[\\x00-\\x{1100ff}]": rr(0, top), "[^\\x00-\\x{1100ff}]": nil, "[^\\x00-a]": rr('b', top),
		// Symbols of more bytes, and bytes outside any encoding.
		"[\u00e9]": rr(0xe9, 0xe9), "[\u00e0-\u00ff]": rr(0xe0, 0xff), "[\xff]": rr(0x1100ff, 0x1100ff), "[\xc3]": rr(0x1100c3, 0x1100c3), "[\x80-\xff]": rr(0x110080, 0x1100ff), "[a-\xff]": rr('a', top), "[\u00e9-\\xff]": rr(0xe9, 0xff), "[\x00]": rr(0, 0), "[\n]": rr(10, 10), "[\\\xff-\xff]": rr(0x1100ff, 0x1100ff),
		// What stands for no symbol is within a range as well.
		"[\\x{d7ff}-\\x{e000}]": rr(0xd7ff, 0xe000), "[\U0010ffff-\x80]": rr(0x10ffff, 0x110080),
		// Signs that mean something just elsewhere.
		"[.*+?()|{}$# ]": rr(' ', ' ', '#', '$', '(', '+', '.', '.', '?', '?', '{', '}'),
	} {
		for _, behind := range []string{"", "]", "x", "\xa9", "-z]"} {
			if s, to, e, at := scan.Class([]byte(p+behind), 0, false); e != api.OK || to != len(p) || at != 0 || !slices.Equal(s, want) {
				t.Errorf("Class(%q) = %d, %d, %d, %d, want %d, %d", p+behind, s, to, e, at, want, len(p))
			}
		}
	}
}

func TestClassFolded(t *testing.T) {
	for p, want := range map[string][]rset.Range{
		"[a]": rr('A', 'A', 'a', 'a'), "[k]": rr('K', 'K', 'k', 'k', 0x212a, 0x212a), "[\u212a]": rr('K', 'K', 'k', 'k', 0x212a, 0x212a), "[a-c]": rr('A', 'C', 'a', 'c'), "[^a]": rr(0, '@', 'B', '`', 'b', top), "[0]": rr('0', '0'), "[\xff]": rr(0x1100ff, 0x1100ff),
		"[Z-a]": rr('A', 'A', 'Z', 'a', 'z', 'z'), "[[:upper:]]": rr('A', 'Z', 'a', 'z', 0x17f, 0x17f, 0x212a, 0x212a), "[\\x{e9}]": rr(0xc9, 0xc9, 0xe9, 0xe9), "[\\d]": rr('0', '9'),
		// First closed, and then what isn't in that.
		"[^k]": rr(0, 'J', 'L', 'j', 'l', 0x2129, 0x212b, top), "[^[:lower:]]": rr(0, '@', '[', '`', '{', 0x17e, 0x180, 0x2129, 0x212b, top),
		// What hasn't the name is a part, and closed in its turn: it has the long s and the Kelvin sign.
		"[[:^alpha:]]": rr(0, '@', 'K', 'K', 'S', 'S', '[', '`', 'k', 'k', 's', 's', '{', top), "[\\W]": rr(0, '/', ':', '@', 'K', 'K', 'S', 'S', '[', '^', '`', '`', 'k', 'k', 's', 's', '{', top), "[[:^lower:]]": rr(0, top),
	} {
		if s, to, e, at := scan.Class([]byte(p), 0, true); e != api.OK || to != len(p) || at != 0 || !slices.Equal(s, want) {
			t.Errorf("Class(%q) = %x, %d, %d, %d, want %x", p, s, to, e, at, want)
		}
	}
	// A range whose ends stand the wrong way round isn't righted by what is the same but for its case.
	if s, to, e, at := scan.Class([]byte("[a-Z]"), 0, true); e != api.ErrClass || at != 1 || to != 0 || len(s) != 0 {
		t.Errorf("%d, %d, %d, %d", s, to, e, at)
	}
}

// wrong is an error and its place.
type wrong struct {
	e  api.Errno
	at int
}

func TestClassWrong(t *testing.T) {
	for p, want := range map[string]wrong{
		"": {api.ErrRange, 0}, "a": {api.ErrRange, 0}, "]": {api.ErrRange, 0}, "\\[a]": {api.ErrRange, 0}, "^[a]": {api.ErrRange, 0},
		// It ends too early.
		"[": {api.ErrClass, 0}, "[a": {api.ErrClass, 0}, "[]": {api.ErrClass, 0}, "[^": {api.ErrClass, 0}, "[^]": {api.ErrClass, 0}, "[a-": {api.ErrClass, 0}, "[a-b": {api.ErrClass, 0}, "[-": {api.ErrClass, 0}, "[]-": {api.ErrClass, 0}, "[\\]": {api.ErrClass, 0}, "[a\\]": {api.ErrClass, 0}, "[[": {api.ErrClass, 0}, "[[:digit:]": {api.ErrClass, 0}, "[^[:digit:]": {api.ErrClass, 0}, "[]abc": {api.ErrClass, 0},
		// Backslashes.
		"[\\": {api.ErrEscape, 1}, "[a\\": {api.ErrEscape, 2}, "[a\\q]": {api.ErrEscape, 2}, "[^\\q]": {api.ErrEscape, 2}, "[\\1]": {api.ErrEscape, 1}, "[\\A]": {api.ErrEscape, 1}, "[\\k<a>]": {api.ErrEscape, 1}, "[a\\x{d800}]": {api.ErrEscape, 2}, "[\\x4]": {api.ErrEscape, 1}, "[\u00e9\\B]": {api.ErrEscape, 3}, "[ab\\0-z]": {api.ErrEscape, 3},
		// Names.
		"[[:": {api.ErrClass, 1}, "[[:]": {api.ErrClass, 1}, "[[::]]": {api.ErrClass, 1}, "[[:no:]]": {api.ErrClass, 1}, "[[:Digit:]]": {api.ErrClass, 1}, "[[:digit]]": {api.ErrClass, 1}, "[[:digit:": {api.ErrClass, 1}, "[[:digit:x]": {api.ErrClass, 1}, "[[: digit:]]": {api.ErrClass, 1}, "[[:digit :]]": {api.ErrClass, 1}, "[[:^:]]": {api.ErrClass, 1}, "[[:^^digit:]]": {api.ErrClass, 1}, "[[:digit^:]]": {api.ErrClass, 1}, "[[:digits:]]": {api.ErrClass, 1}, "[[:digi:]]": {api.ErrClass, 1}, "[^[:no:]]": {api.ErrClass, 2}, "[a[:digit]": {api.ErrClass, 2}, "[a[:a]:]]": {api.ErrClass, 2}, "[[:digit:][:no:]]": {api.ErrClass, 10}, "[][:no:]]": {api.ErrClass, 2}, "[[:[:digit:]]": {api.ErrClass, 1},
		// Ranges.
		"[z-a]": {api.ErrClass, 1}, "[b-a]": {api.ErrClass, 1}, "[^z-a]": {api.ErrClass, 2}, "[xz-a]": {api.ErrClass, 2}, "[xa-\\d]": {api.ErrClass, 2}, "[a-\\W]": {api.ErrClass, 1}, "[a-[:digit:]]": {api.ErrClass, 1}, "[a-[:^digit:]]": {api.ErrClass, 1}, "[\\x62-a]": {api.ErrClass, 1}, "[b-\\x61]": {api.ErrClass, 1}, "[a-b-c-b]": {api.ErrClass, 5}, "[a--]": {api.ErrClass, 1}, "[a-\\]]": {api.ErrClass, 1}, "[a-[]": {api.ErrClass, 1}, "[]-[]": {api.ErrClass, 1}, "[\xff-a]": {api.ErrClass, 1}, "[\u00e9-a]": {api.ErrClass, 1}, "[\xc3-\u00e9]": {api.ErrClass, 1}, "[\\--\\d]": {api.ErrClass, 1}, "[---b-a]": {api.ErrClass, 4},
		// A set as an end is wrong behind the least number too.
		"[\\x00-\\d]": {api.ErrClass, 1}, "[\x00-\\W]": {api.ErrClass, 1}, "[a\x00-[:ascii:]]": {api.ErrClass, 2},
		// What a range's end itself may be wrong with comes first.
		"[a-\\q]": {api.ErrEscape, 3}, "[a-\\": {api.ErrEscape, 3}, "[a-\\k<a>]": {api.ErrEscape, 3}, "[z-\\x{}]": {api.ErrEscape, 3}, "[a-[:no:]]": {api.ErrClass, 3}, "[a-[:]": {api.ErrClass, 3}, "[\\x61-\\B]": {api.ErrEscape, 6}, "[a-\\1]": {api.ErrEscape, 3},
		// The first one, from the left.
		"[z-a\\q]": {api.ErrClass, 1}, "[\\qz-a]": {api.ErrEscape, 1}, "[[:no:]\\q]": {api.ErrClass, 1}, "[\\q[:no:]]": {api.ErrEscape, 1}, "[a\\q": {api.ErrEscape, 2}, "[az-a": {api.ErrClass, 2}, "[[:no:]": {api.ErrClass, 1}, "[z-a[:no:]": {api.ErrClass, 1}, "[\\q\\k": {api.ErrEscape, 1},
	} {
		for _, folded := range []bool{false, true} {
			for _, ahead := range []string{"", "[", "x\\"} {
				place := want.at + len(ahead)
				if want.e == api.ErrRange {
					place = 0
				}
				if s, to, e, at := scan.Class([]byte(ahead+p), len(ahead), folded); len(s) != 0 || to != 0 || e != want.e || at != place {
					t.Errorf("Class(%q, %d) = %d, %d, %d, %d, want %d, %d", ahead+p, len(ahead), s, to, e, at, want.e, place)
				}
			}
		}
	}
	for _, p := range []string{"", "[a]", "[[[["} {
		for _, i := range outside(len(p)) {
			if s, to, e, at := scan.Class([]byte(p), i, true); len(s) != 0 || to != 0 || e != api.ErrRange || at != 0 {
				t.Errorf("Class(%q, %d) = %d, %d, %d, %d", p, i, s, to, e, at)
			}
		}
	}
}

// Each name of layer 5, with a ^ and without, and each with one byte changed.
func TestClassNames(t *testing.T) {
	for _, name := range class.Names() {
		l, _ := class.Named(name)
		for p, want := range map[string][]rset.Range{"[[:" + name + ":]]": l, "[[:^" + name + ":]]": rset.Not(l), "[^[:" + name + ":]]": rset.Not(l)} {
			if s, to, e, _ := scan.Class([]byte(p), 0, false); e != api.OK || to != len(p) || !slices.Equal(s, want) {
				t.Errorf("Class(%q) = %d, %d, %d", p, s, to, e)
			}
			if s, to, e, _ := scan.Class([]byte(p), 0, true); p[1] != '^' && (e != api.OK || to != len(p) || !slices.Equal(s, fold.Close(want))) {
				t.Errorf("Class(%q), folded = %d, %d, %d", p, s, to, e)
			}
			for i := range p {
				for c := range 256 {
					b := []byte(p)
					b[i] = byte(c)
					holdsClass(t, string(b), false)
				}
			}
		}
	}
}

// Each byte, and each backslash with one, as a part, and as a range's ends.
func TestClassBytes(t *testing.T) {
	for c := range 256 {
		for _, x := range []string{string([]byte{byte(c)}), string([]byte{'\\', byte(c)})} {
			for _, p := range []string{"[" + x + "]", "[^" + x + "]", "[a" + x + "]", "[" + x + "-z]", "[!-" + x + "]", "[" + x + "-" + x + "]", "[" + x + "-]", "[a" + x + "z]"} {
				holdsClass(t, p, false)
				holdsClass(t, p, true)
			}
		}
	}
}

func TestClassTexts(t *testing.T) {
	for p := range texts(signs("[]^-\\:ad!"), 5) {
		holdsClass(t, "["+p, false)
	}
	for p := range texts(signs("[]^-\\:k"), 4) {
		holdsClass(t, "["+p, true)
		holdsClass(t, "[k"+p+"]", true)
	}
}

func TestClassPieces(t *testing.T) {
	pieces := []string{"[:digit:]", "[:^upper:]", "[:no:]", "[:", ":]", "\\d", "\\W", "\\x6b", "\\x{1100ff}", "\\q", "\\]", "]", "[", "-", "^", "s", "\u00e9", "\xc3"}
	for p := range texts(pieces, 3) {
		holdsClass(t, "["+p+"]", false)
		holdsClass(t, "[^"+p+"]", true)
		holdsClass(t, "[a-"+p+"]", true)
		holdsClass(t, "["+p, false)
	}
}

// atom is what begins at a place of a class, less any range: its numbers, and whether it is just one.
type atom struct {
	set  []rset.Range
	one  bool
	long int
}

var namedAt = regexp.MustCompile(`^\[:(\^?)([a-z]+):\]`)

// atomAt is the model of what begins a text within a class.
func atomAt(p string) (atom, api.Errno) {
	if strings.HasPrefix(p, "\\") {
		x, e := modelled(p, true)
		if x.Kind == scan.Lit {
			x.Set = rr(x.Num, x.Num)
		}
		return atom{x.Set, x.Kind == scan.Lit, x.To}, e
	}
	if strings.HasPrefix(p, "[:") {
		found := namedAt.FindStringSubmatch(p)
		if found == nil || !slices.Contains(class.Names(), found[2]) {
			return atom{}, api.ErrClass
		}
		l, _ := class.Named(found[2])
		if found[1] != "" {
			l = rset.Not(l)
		}
		return atom{l, false, len(found[0])}, api.OK
	}
	x, n := sym.At([]byte(p), 0)
	return atom{rr(x, x), true, n}, api.OK
}

var headAt = regexp.MustCompile(`^\[\^?`)

// classed is the model of a class at a text's beginning: a list that has all that its parts have, and what is behind it.
func classed(p string) (l []rset.Range, to int, w wrong) {
	head := headAt.FindString(p)
	if head == "" {
		return nil, 0, wrong{api.ErrRange, 0}
	}
	left := p[len(head):]
	for first := true; ; first = false {
		at := len(p) - len(left)
		if left == "" {
			return nil, 0, wrong{api.ErrClass, 0}
		}
		if !first && left[0] == ']' {
			return l, at + 1, wrong{}
		}
		low, e := atomAt(left)
		if e != api.OK {
			return nil, 0, wrong{e, at}
		}
		left = left[low.long:]
		if !low.one || len(left) < 2 || left[0] != '-' || left[1] == ']' {
			l = append(l, low.set...)
			continue
		}
		left = left[1:]
		high, e := atomAt(left)
		if e != api.OK {
			return nil, 0, wrong{e, len(p) - len(left)}
		}
		left = left[high.long:]
		if !high.one || high.set[0].Lo < low.set[0].Lo {
			return nil, 0, wrong{api.ErrClass, at}
		}
		l = append(l, rset.Range{Lo: low.set[0].Lo, Hi: high.set[0].Lo})
	}
}

// holdsClass holds what Class tells of a text, and of the same one behind another, against the model.
func holdsClass(t *testing.T, p string, folded bool) {
	t.Helper()
	want, end, w := classed(p)
	want = rset.Make(want)
	if folded {
		want = fold.Close(want)
	}
	if w.e == api.OK && strings.HasPrefix(p, "[^") {
		want = rset.Not(want)
	}
	for _, ahead := range []string{"", "[^"} {
		to, place := end, w.at
		if w.e == api.OK {
			to += len(ahead)
		} else if w.e != api.ErrRange {
			place += len(ahead)
		}
		s, behind, e, at := scan.Class([]byte(ahead+p), len(ahead), folded)
		if e != w.e || at != place || behind != to || !slices.Equal(s, want) {
			t.Fatalf("Class(%q, %d, %t) = %d, %d, %d, %d, want %d, %d, %d, %d", ahead+p, len(ahead), folded, s, behind, e, at, want, to, w.e, place)
		}
	}
}

// A class may be long.
func TestClassLong(t *testing.T) {
	for _, part := range []string{"a", "a-z", "\\d", "\\x{e9}", "[:^alpha:]", "\u212a", "\\]"} {
		p := "[^x" + strings.Repeat(part, 20000) + "]"
		holdsClass(t, p, true)
		holdsClass(t, p[:len(p)-1], false)
	}
}

// P7.4

var blankAt = regexp.MustCompile(`^(?:[\t-\r ]|#[^\n]*)*`)

// isBlank holds what Blank tells of all places of a text, and of some outside, against a regular expression.
func isBlank(t *testing.T, p string) {
	t.Helper()
	for i := -2; i <= len(p)+2; i++ {
		want := i
		if from := max(i, 0); from <= len(p) {
			want = from + len(blankAt.FindString(p[from:]))
		}
		if at := scan.Blank([]byte(p), i); at != want {
			t.Fatalf("Blank(%q, %d) = %d, want %d", p, i, at, want)
		}
	}
}

func TestBlank(t *testing.T) {
	for _, x := range []struct {
		p       string
		i, want int
	}{
		{"", 0, 0}, {"a", 0, 0}, {" a", 0, 1}, {" a", 1, 1}, {" a", 2, 2}, {"\t\n\v\f\r a", 0, 6}, {"a  b", 1, 3}, {"a  ", 1, 3},
		{"#", 0, 1}, {"# x", 0, 3}, {"#x\n", 0, 3}, {"#x\ny", 0, 3}, {"#x\n#y\n z", 0, 7}, {"#\n\n#", 0, 4}, {" # a # b\nc", 0, 9}, {"a#b\nc", 0, 0}, {"a#b\nc", 1, 4}, {"#x\ry", 0, 4}, {"# \\\n\\", 0, 4}, {"#\xff\n\xff", 0, 3},
		// From within a remark what stands there is none.
		{"#x\ny", 1, 1}, {"# x", 1, 2},
		{"a\n# x\n b", 1, 7}, {"\u00a0", 0, 0}, {"\u0085", 0, 0}, {"\u2028", 0, 0}, {"\x00", 0, 0}, {"\x08", 0, 0}, {"\x0e", 0, 0}, {"\x1f", 0, 0}, {"\x7f", 0, 0}, {"\\ ", 0, 0},
		{"  a", -1, 2}, {"#\na", -5, 2}, {"a", -3, 0}, {"", -1, 0}, {"", 5, 5}, {" ", 1, 1}, {" ", 7, 7}, {"a", math.MinInt, 0}, {" a", math.MinInt, 1}, {" a", math.MaxInt, math.MaxInt}, {" ", 1 << 32, 1 << 32},
	} {
		if at := scan.Blank([]byte(x.p), x.i); at != x.want {
			t.Errorf("Blank(%q, %d) = %d, want %d", x.p, x.i, at, x.want)
		}
	}
}

func TestBlankTexts(t *testing.T) {
	for c := range 256 {
		for _, p := range []string{"%", " %", "%a", "#%", "#%\n%", "#%a", "%%"} {
			isBlank(t, strings.ReplaceAll(p, "%", string([]byte{byte(c)})))
		}
	}
	for p := range texts(signs(" \n#a\r"), 7) {
		isBlank(t, p)
	}
	isBlank(t, strings.Repeat(" #x\n", 300))
}

// P1 and the rules of memory.

// spoil writes over all of a list's memory, its spare room too.
func spoil[E any](l []E, x E) {
	l = l[:cap(l)]
	for i := range l {
		l[i] = x
	}
}

// sets are what the calls tell that have lists.
func sets() [][]rset.Range {
	var all [][]rset.Range
	for _, p := range []string{`\d`, `\w`, `\s`, `\D`, `\W`, `\S`} {
		x, _ := scan.Escape([]byte(p), 0)
		y, _ := scan.Inner([]byte(p), 0)
		all = append(all, x.Set, y.Set)
	}
	for _, p := range []string{"[a]", "[^a]", "[a-z]", "[\\d]", "[\\W]", "[[:alnum:]]", "[[:^alnum:]]", "[^[:punct:]x]", "[\\d\\D]"} {
		x, _, _, _ := scan.Class([]byte(p), 0, false)
		y, _, _, _ := scan.Class([]byte(p), 0, true)
		all = append(all, x, y)
	}
	return all
}

func TestAnswersAreNew(t *testing.T) {
	same := func(a, b []rset.Range) bool { return slices.Equal(a, b) }
	first, second := sets(), sets()
	var want [][]rset.Range
	for _, l := range second {
		want = append(want, slices.Clone(l))
	}
	for i, l := range first {
		spoil(l, rset.Range{Lo: -77, Hi: math.MaxInt})
		if !slices.EqualFunc(second, want, same) || !slices.EqualFunc(first[i+1:], want[i+1:], same) || !slices.EqualFunc(sets(), want, same) {
			t.Fatalf("answer %d shares memory", i)
		}
	}
}

// asked are texts at all places of which all calls are tried.
func asked() []string {
	l := []string{
		`a\n\x41\x{e9}\d\A\12\k<a_1>\q`, "a{2,3}+?*{0}{9999,}{,", "[^]a-c[:digit:]\\d-\\x{1100ff}]", "[[[:[:no:]", " # x\n\t#", "\xc3\xa9\xff\\\xff[\xff-\xc3",
		"(?<a>b)(?<", strings.Repeat("\\", 9), strings.Repeat("[", 9), strings.Repeat("{", 9), strings.Repeat("[:", 5), strings.Repeat("\\k<", 5), strings.Repeat("\\x{", 5),
	}
	for c := range 256 {
		l = append(l, strings.Repeat(string([]byte{byte(c)}), 4))
	}
	return l
}

func TestArgumentsAreLeft(t *testing.T) {
	for _, text := range asked() {
		// The spare room is what would go on with it.
		room := []byte(text + "9}]>:]\n" + text)
		was := bytes.Clone(room)
		p := room[:len(text)]
		alone := []byte(text)
		alone = alone[:len(alone):len(alone)]
		for _, i := range append(outside(len(p)), seq(len(p))...) {
			x, e := scan.Escape(p, i)
			y, f := scan.Escape(alone, i)
			v, g := scan.Inner(p, i)
			w, h := scan.Inner(alone, i)
			if e != f || g != h || !equal(x, y) || !equal(v, w) {
				t.Fatalf("a backslash at %d of %q goes by the spare room", i, text)
			}
			name, to, e := scan.Name(p, i)
			if n, at, f := scan.Name(alone, i); n != name || at != to || e != f {
				t.Fatalf("a name at %d of %q goes by the spare room", i, text)
			}
			q, ok, e := scan.Count(p, i)
			if r, o, f := scan.Count(alone, i); q != r || ok != o || e != f {
				t.Fatalf("a quantifier at %d of %q goes by the spare room", i, text)
			}
			s, to, e, at := scan.Class(p, i, i%2 == 0)
			if u, n, f, a := scan.Class(alone, i, i%2 == 0); !slices.Equal(s, u) || to != n || e != f || at != a {
				t.Fatalf("a class at %d of %q goes by the spare room", i, text)
			}
			if scan.Blank(p, i) != scan.Blank(alone, i) {
				t.Fatalf("blanks at %d of %q go by the spare room", i, text)
			}
		}
		if !bytes.Equal(room, was) {
			t.Fatalf("%q was changed", text)
		}
	}
}

// seq are the numbers from 0 on, so many.
func seq(many int) []int {
	var l []int
	for i := range many {
		l = append(l, i)
	}
	return l
}

// What was told stays as it is, whatever the pattern becomes.
func TestAnswersStay(t *testing.T) {
	p := []byte(`\k<name>`)
	x, _ := scan.Escape(p, 0)
	name, _, _ := scan.Name(p, 3)
	spoil(p, 'z')
	if x.Name != "name" || name != "name" {
		t.Errorf("%q, %q", x.Name, name)
	}
}

// A nil pattern has nothing anywhere.
func TestNil(t *testing.T) {
	for _, i := range outside(0) {
		_, a := scan.Escape(nil, i)
		_, b := scan.Inner(nil, i)
		_, _, c := scan.Name(nil, i)
		_, ok, d := scan.Count(nil, i)
		_, _, e, at := scan.Class(nil, i, false)
		if a != api.ErrRange || b != api.ErrRange || c != api.ErrName || ok || d != api.OK || e != api.ErrRange || at != 0 || scan.Blank(nil, i) != max(i, 0) {
			t.Errorf("at %d: %d, %d, %d, %t, %d, %d, %d, %d", i, a, b, c, ok, d, e, at, scan.Blank(nil, i))
		}
	}
}
