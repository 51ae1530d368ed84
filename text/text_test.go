package text_test

import (
	"bytes"
	"math"
	"math/rand"
	"slices"
	"strings"
	"testing"
	"unicode/utf8"

	"clew/api"
	"clew/ast"
	"clew/class"
	"clew/fold"
	"clew/rset"
	"clew/sym"
	"clew/text"
)

// of is a text that there may be.
func of(t *testing.T, b string) text.Text {
	t.Helper()
	x, e := text.New([]byte(b))
	if e != api.OK {
		t.Fatalf("New(%.80q): error %d", b, e)
	}
	return x
}

// symbols are all of a text's, one by one.
func symbols(x text.Text) []int {
	var l []int
	for at := range x.Len() {
		l = append(l, x.At(at))
	}
	return l
}

// beyond are numbers that are no place of a text of so many symbols, some of which would be one if they were cut to fewer bits, or had no sign.
func beyond(n int) []int {
	return []int{math.MinInt, math.MinInt + 1, -1 << 32, -1 << 16, -n - 1, -2, -1, n + 1, n + 2, 1<<16 + n + 1, 1 << 31, 1 << 32, 1<<32 + 1, math.MaxInt - 1, math.MaxInt}
}

// odd are numbers of any kind, places and others.
func odd(n int) []int {
	l := beyond(n)
	for at := -3; at <= n+3; at++ {
		l = append(l, at)
	}
	return l
}

// grown are all texts of up to so many of some pieces.
func grown(most int, pieces ...string) []string {
	all := []string{""}
	last := all
	for range most {
		var next []string
		for _, s := range last {
			for _, p := range pieces {
				next = append(next, s+p)
			}
		}
		all = append(all, next...)
		last = next
	}
	return all
}

// P13.1

// kinds are bytes, and the symbols of their texts.
func kinds() []struct {
	b    string
	want []int
} {
	return []struct {
		b    string
		want []int
	}{
		{"", nil},
		{"a", []int{'a'}},
		{"a\nb", []int{'a', 10, 'b'}},
		{"\x00\x7f\r\n", []int{0, 127, 13, 10}},
		{"a\xc3\xa9\xffK\u212a", []int{'a', 0xe9, 0x1100ff, 'K', 0x212a}},
		// The least and the greatest of each length, and those beside what is no scalar value.
		{"\xc2\x80\xdf\xbf", []int{0x80, 0x7ff}},
		{"\xe0\xa0\x80\xef\xbf\xbf", []int{0x800, 0xffff}},
		{"\xf0\x90\x80\x80\xf4\x8f\xbf\xbf", []int{0x10000, 0x10ffff}},
		{"\xed\x9f\xbf\xee\x80\x80", []int{0xd7ff, 0xe000}},
		// The replacement character is itself.
		{"\xef\xbf\xbd", []int{0xfffd}},
		// Bytes outside any encoding: cut off, too long, too great, no scalar value, begun by what can't begin.
		{"\xe2\x82", []int{0x1100e2, 0x110082}},
		{"\xc0\xafa", []int{0x1100c0, 0x1100af, 'a'}},
		{"\xf4\x90\x80\x80", []int{0x1100f4, 0x110090, 0x110080, 0x110080}},
		{"\xed\xa0\x80", []int{0x1100ed, 0x1100a0, 0x110080}},
		{"\x80\xbf\xfe", []int{0x110080, 0x1100bf, 0x1100fe}},
	}
}

func TestNew(t *testing.T) {
	for _, k := range kinds() {
		x := of(t, k.b)
		if l := symbols(x); x.Len() != len(k.want) || !slices.Equal(l, k.want) {
			t.Errorf("New(%x): %d symbols %x, want %x", k.b, x.Len(), l, k.want)
		}
		if b := x.Part(0, x.Len()); string(b) != k.b {
			t.Errorf("New(%x): bytes %x", k.b, b)
		}
	}
	for _, b := range [][]byte{nil, {}} {
		if x, e := text.New(b); e != api.OK || x.Len() != 0 || x.At(0) != -1 {
			t.Errorf("New(%v): error %d, %d symbols", b, e, x.Len())
		}
	}
}

// A text's symbols are those of layer 1.
func TestNewAsSymbols(t *testing.T) {
	r := rand.New(rand.NewSource(13))
	for range 2000 {
		b := make([]byte, r.Intn(20))
		for i := range b {
			b[i] = "a\n\x80\xa9\xbf\xc3\xe2\x82\xac\xed\xf0\x9f\xff"[r.Intn(13)]
		}
		if x := of(t, string(b)); !slices.Equal(symbols(x), sym.All(b)) {
			t.Fatalf("New(%x): %x, want %x", b, symbols(x), sym.All(b))
		}
	}
}

// What is counted is symbols, however many bytes each of them has.
func TestNewLimit(t *testing.T) {
	for _, s := range []string{"a", "\n", "\xc3\xa9", "\xe2\x82\xac", "\xf0\x9f\x98\x80", "\xff", "\x80", "\x00"} {
		b := strings.Repeat(s, api.MaxText)
		x := of(t, b)
		if x.Len() != 65536 || x.At(65535) != x.At(0) || x.At(65536) != -1 || !x.Hold(ast.Last, 65536) || string(x.Part(0, 65536)) != b {
			t.Errorf("%x: %d symbols", s, x.Len())
		}
		if y := of(t, b[len(s):]); y.Len() != 65535 {
			t.Errorf("%x: %d symbols", s, y.Len())
		}
		for _, more := range []string{"a", "\xc3\xa9", "\xff", s, s + s, strings.Repeat(s, 100000)} {
			y, e := text.New([]byte(b + more))
			if e != api.ErrLong || y.Len() != 0 || y.At(0) != -1 || len(y.Part(0, 1)) != 0 {
				t.Errorf("%x and %.8x: error %d, %d symbols", s, more, e, y.Len())
			}
		}
	}
	// A symbol that is cut off at the end is as many as it has bytes.
	b := strings.Repeat("a", api.MaxText-2) + "\xe2\x82"
	if x := of(t, b); x.Len() != api.MaxText || x.At(65535) != 0x110082 {
		t.Error(x.Len())
	}
	if x := of(t, b+"\xac"); x.Len() != api.MaxText-1 || x.At(65534) != 0x20ac {
		t.Error(x.Len())
	}
	if _, e := text.New([]byte(b + "b")); e != api.ErrLong {
		t.Error(e)
	}
}

func TestAt(t *testing.T) {
	for _, k := range kinds() {
		x := of(t, k.b)
		for _, at := range odd(len(k.want)) {
			want := -1
			if at >= 0 && at < len(k.want) {
				want = k.want[at]
			}
			if y := x.At(at); y != want {
				t.Errorf("%x: At(%d) = %x, want %x", k.b, at, y, want)
			}
		}
	}
}

// part is Part, symbol by symbol.
func part(l []int, from, to int) []byte {
	var b []byte
	for at, x := range l {
		if at < from || at >= to {
			continue
		}
		if x >= api.Bad {
			b = append(b, byte(x-api.Bad))
		} else {
			b = utf8.AppendRune(b, rune(x))
		}
	}
	return b
}

func TestPart(t *testing.T) {
	x := of(t, "a\xc3\xa9\xffK\u212a")
	for _, p := range []struct {
		from, to int
		want     string
	}{
		{0, 5, "a\xc3\xa9\xffK\u212a"},
		{0, 0, ""}, {0, 1, "a"}, {1, 2, "\xc3\xa9"}, {2, 3, "\xff"}, {1, 3, "\xc3\xa9\xff"}, {3, 5, "K\u212a"}, {4, 5, "\u212a"}, {5, 5, ""},
		{-2, 1, "a"}, {-1, 0, ""}, {-5, -1, ""}, {4, 9, "\u212a"}, {5, 9, ""}, {6, 9, ""}, {-1, 6, "a\xc3\xa9\xffK\u212a"},
		{3, 1, ""}, {5, 0, ""}, {9, -9, ""},
		{math.MinInt, math.MaxInt, "a\xc3\xa9\xffK\u212a"}, {math.MaxInt, math.MinInt, ""}, {math.MinInt, 2, "a\xc3\xa9"}, {3, math.MaxInt, "K\u212a"},
	} {
		if b := x.Part(p.from, p.to); string(b) != p.want {
			t.Errorf("Part(%d, %d) = %x, want %x", p.from, p.to, b, p.want)
		}
	}
}

func TestPartAll(t *testing.T) {
	for _, k := range kinds() {
		x := of(t, k.b)
		for _, from := range odd(len(k.want)) {
			for _, to := range odd(len(k.want)) {
				if b := x.Part(from, to); !bytes.Equal(b, part(k.want, from, to)) {
					t.Errorf("%x: Part(%d, %d) = %x", k.b, from, to, b)
				}
			}
		}
	}
}

func TestIn(t *testing.T) {
	all := []rset.Range{{Lo: 0, Hi: api.MaxSym}}
	wide := []rset.Range{{Lo: math.MinInt, Hi: math.MaxInt}}
	for _, x := range []struct {
		at   int
		l    []rset.Range
		want bool
	}{
		{0, []rset.Range{{Lo: 'a', Hi: 'b'}}, true},
		{0, []rset.Range{{Lo: 'a', Hi: 'a'}}, true},
		{0, []rset.Range{{Lo: 'b', Hi: 'c'}}, false},
		{0, []rset.Range{{Lo: 0, Hi: 'a' - 1}}, false},
		{1, rset.Of(0xe9), true},
		{1, rset.Of(0xc3), false},
		{2, rset.Of(0x1100ff), true},
		{2, rset.Of(0xff), false},
		{2, rset.Of(0xe9), false},
		{3, rset.Of(10), true},
		{3, class.Any(false), false},
		{3, class.Any(true), true},
		// Lists that aren't the least ones.
		{0, []rset.Range{{Lo: 'x', Hi: 'y'}, {Lo: 'a', Hi: 'a'}, {Lo: 0, Hi: 'c'}}, true},
		{0, []rset.Range{{Lo: 'b', Hi: 'a'}}, false},
		// No list has anything.
		{0, nil, false}, {0, []rset.Range{}, false}, {1, nil, false},
		// Where no symbol is, none is in any list.
		{4, all, false}, {5, all, false}, {-1, all, false}, {math.MinInt, all, false}, {math.MaxInt, all, false},
		{4, wide, false}, {-1, wide, false}, {5, wide, false}, {0, wide, true},
		{4, []rset.Range{{Lo: -1, Hi: -1}}, false}, {-1, []rset.Range{{Lo: -1, Hi: -1}}, false}, {4, nil, false},
	} {
		if is := of(t, "a\xc3\xa9\xff\n").In(x.at, x.l); is != x.want {
			t.Errorf("In(%d, %d) = %t", x.at, x.l, is)
		}
	}
}

// In goes by the symbol behind the place, in each text and for each list.
func TestInAsHas(t *testing.T) {
	lists := [][]rset.Range{nil, rset.Of('a'), rset.Of(10), rset.Of(0x1100ff), rset.Of(api.Bad), class.Any(false), class.Any(true), rset.Not(rset.Of('a')), {{Lo: 0x80, Hi: 0xfffd}, {Lo: 0, Hi: 9}}, {{Lo: -5, Hi: 'a'}, {Lo: api.MaxSym, Hi: math.MaxInt}}}
	for _, k := range kinds() {
		x := of(t, k.b)
		for _, at := range odd(len(k.want)) {
			for _, l := range lists {
				want := at >= 0 && at < len(k.want) && rset.Has(l, k.want[at])
				if is := x.In(at, l); is != want {
					t.Errorf("%x: In(%d, %d) = %t", k.b, at, l, is)
				}
			}
		}
	}
}

// P13.2: what holds.

// holds are how a text's places are held, from 0 to the end: a 1 where it holds.
func holds(x text.Text, what int) string {
	s := ""
	for at := range x.Len() + 1 {
		if x.Hold(what, at) {
			s += "1"
		} else {
			s += "."
		}
	}
	return s
}

func TestHold(t *testing.T) {
	for _, x := range []struct {
		b    string
		what int
		want string
	}{
		// The chapter's examples.
		{"a\nb", ast.LineBegin, "1.1."}, {"a\nb", ast.LineEnd, ".1.1"}, {"a\nb", ast.Word, "1111"},
		{"a\nb", ast.NotWord, "...."}, {"a\nb", ast.Begin, "1..."}, {"a\nb", ast.Last, "...1"}, {"a\nb", ast.End, "...1"},
		// Nothing at all.
		{"", ast.Begin, "1"}, {"", ast.End, "1"}, {"", ast.Last, "1"}, {"", ast.LineBegin, "1"}, {"", ast.LineEnd, "1"}, {"", ast.Word, "."}, {"", ast.NotWord, "1"},
		// Just one line's end, and two.
		{"\n", ast.Begin, "1."}, {"\n", ast.End, "11"}, {"\n", ast.Last, ".1"}, {"\n", ast.LineBegin, "11"}, {"\n", ast.LineEnd, "11"}, {"\n", ast.Word, ".."}, {"\n", ast.NotWord, "11"},
		{"\n\n", ast.End, ".11"}, {"\n\n", ast.Last, "..1"}, {"\n\n", ast.LineBegin, "111"}, {"\n\n", ast.LineEnd, "111"}, {"\n\n", ast.Begin, "1.."},
		// The last symbol, a line's end or not.
		{"a\n", ast.End, ".11"}, {"a\n", ast.Last, "..1"}, {"a\n", ast.LineEnd, ".11"}, {"a\n", ast.LineBegin, "1.1"},
		{"\na", ast.End, "..1"}, {"\na", ast.LineBegin, "11."}, {"\na", ast.LineEnd, "1.1"},
		{"a\n\n", ast.End, "..11"}, {"a\nb\n", ast.End, "...11"},
		// Just a 10 ends a line.
		{"a\rb\x0b\x0c", ast.LineBegin, "1....."}, {"a\rb\x0b\x0c", ast.LineEnd, ".....1"}, {"a\r", ast.End, "..1"}, {"a\r\n", ast.End, "..11"},
		{"\u2028\u0085", ast.LineBegin, "1.."}, {"\u2028\u0085", ast.End, "..1"}, {"\u010a\u0a0a", ast.LineEnd, "..1"}, {"\u010a\u0a0a", ast.End, "..1"},
		// Words.
		{"ab -c_9", ast.Word, "1.1.1..1"}, {"ab -c_9", ast.NotWord, ".1.1.11."},
		{"a", ast.Word, "11"}, {"a", ast.NotWord, ".."}, {" ", ast.Word, ".."}, {" ", ast.NotWord, "11"}, {" a ", ast.Word, ".11."}, {"-a", ast.Word, ".11"}, {"a-", ast.Word, "11."},
		// Letters outside ASCII, and bytes outside any encoding, aren't a word's.
		{"k\u212a", ast.Word, "11."}, {"a\xc3\xa9b", ast.Word, "1111"}, {"\xc3\xa9", ast.Word, ".."}, {"\xff", ast.NotWord, "11"}, {"a\xe1", ast.Word, "11."}, {"\xe1a", ast.Word, ".11"}, {"\u0661\u203f", ast.NotWord, "111"},
		{"@AZ[`az{/09:^_`", ast.Word, ".1.1.1.1.1.1.11."},
	} {
		if s := holds(of(t, x.b), x.what); s != x.want {
			t.Errorf("%q: %d holds at %s, want %s", x.b, x.what, s, x.want)
		}
	}
}

// held is Hold, by the bytes of a text that has but one a symbol.
func held(b string, what, at int) bool {
	if at < 0 || at > len(b) {
		return false
	}
	ahead, behind := b[:at], b[at:]
	const words = "0123456789ABCDEFGHIJKLMNOPQRSTUVWXYZ_abcdefghijklmnopqrstuvwxyz"
	within := func(s string) bool { return s != "" && strings.Contains(words, s) }
	edge := within(ahead[max(0, at-1):]) != within(behind[:min(1, len(behind))])
	switch what {
	case 1:
		return ahead == ""
	case 2:
		return behind == "" || behind == "\n"
	case 3:
		return behind == ""
	case 4:
		return ahead == "" || strings.HasSuffix(ahead, "\n")
	case 5:
		return behind == "" || strings.HasPrefix(behind, "\n")
	case 6:
		return edge
	case 7:
		return !edge
	}
	return false
}

// All that can be held, and some that can't, at all places of all short texts, and at what is no place.
func TestHoldAll(t *testing.T) {
	whats := []int{math.MinInt, -7, -1, 0, 1, 2, 3, 4, 5, 6, 7, 8, 9, 10, 256 + 1, 1<<32 + 7, math.MaxInt}
	for _, b := range grown(5, "a", "_", "\n", " ", "\xff") {
		x := of(t, b)
		for _, what := range whats {
			for _, at := range odd(len(b)) {
				if is := x.Hold(what, at); is != held(b, what, at) {
					t.Fatalf("%q: Hold(%d, %d) = %t", b, what, at, is)
				}
			}
		}
	}
}

// Each symbol below some, alone: just a 10 ends a line, and just what layer 5 says is a word's.
func TestHoldEachSymbol(t *testing.T) {
	for r := range rune(0x3000) {
		x := of(t, string(r))
		end, word := r == 10, class.Word(int(r))
		for what, want := range map[int]bool{ast.LineEnd: end, ast.End: end, ast.Last: false, ast.Begin: true, ast.LineBegin: true, ast.Word: word, ast.NotWord: !word} {
			if x.Hold(what, 0) != want {
				t.Errorf("%x: Hold(%d, 0) = %t", r, what, !want)
			}
		}
		for what, want := range map[int]bool{ast.LineEnd: true, ast.End: true, ast.Last: true, ast.Begin: false, ast.LineBegin: end, ast.Word: word, ast.NotWord: !word} {
			if x.Hold(what, 1) != want {
				t.Errorf("%x: Hold(%d, 1) = %t", r, what, !want)
			}
		}
	}
}

// P13.2: what stands again.

func TestAgain(t *testing.T) {
	for _, x := range []struct {
		b             string
		from, to, at  int
		exact, folded int // -1: not so
	}{
		// The chapter's example.
		{"abAB", 0, 2, 2, -1, 4},
		{"abab", 0, 2, 2, 4, 4}, {"abab", 0, 2, 1, -1, -1}, {"abab", 0, 2, 0, 2, 2}, {"abab", 2, 4, 0, 2, 2}, {"abab", 1, 2, 3, 4, 4},
		// What differs at its beginning alone, and at its end alone.
		{"abcxbc", 0, 3, 3, -1, -1}, {"abcabx", 0, 3, 3, -1, -1}, {"abcABX", 0, 3, 3, -1, -1}, {"abcAbC", 0, 3, 3, -1, 6},
		// Over one another.
		{"aaaa", 0, 3, 1, 4, 4}, {"aaaa", 1, 4, 0, 3, 3}, {"aAaA", 0, 3, 1, -1, 4}, {"aAaA", 0, 2, 2, 4, 4},
		// Too little is left.
		{"aab", 0, 2, 2, -1, -1}, {"aa", 0, 2, 1, -1, -1}, {"aa", 0, 1, 2, -1, -1}, {"aaa", 0, 2, 2, -1, -1}, {"aa", 0, 2, 2, -1, -1},
		// Nothing stands everywhere.
		{"ab", 0, 0, 0, 0, 0}, {"ab", 0, 0, 2, 2, 2}, {"ab", 2, 2, 0, 0, 0}, {"ab", 2, 2, 2, 2, 2}, {"ab", 1, 1, 2, 2, 2}, {"", 0, 0, 0, 0, 0},
		// From is above to, or one is no place.
		{"abab", 1, 0, 2, -1, -1}, {"abab", 2, 1, 2, -1, -1}, {"abab", 4, 0, 0, -1, -1}, {"", 0, 0, 1, -1, -1}, {"", 1, 1, 0, -1, -1}, {"", -1, -1, 0, -1, -1},
		{"abab", -1, 1, 2, -1, -1}, {"abab", -1, -1, 2, -1, -1}, {"abab", 0, 5, 0, -1, -1}, {"abab", 5, 5, 0, -1, -1}, {"abab", 0, 0, 5, -1, -1}, {"abab", 0, 0, -1, -1, -1}, {"abab", 0, 2, -2, -1, -1},
		// Places are of symbols, not of bytes.
		{"\xc3\xa9x\xc3\xa9", 0, 1, 2, 3, 3}, {"\xc3\xa9\xc3\xa9", 0, 1, 1, 2, 2}, {"\xc3\xa9\xc3\x89", 0, 1, 1, -1, 2}, {"\u20ac\u20ac\u20ac", 0, 2, 1, 3, 3},
		// Of three that are the same but for their case, each two.
		{"Kk\u212a", 0, 1, 2, -1, 3}, {"Kk\u212a", 2, 3, 0, -1, 1}, {"Kk\u212a", 0, 2, 1, -1, 3}, {"s\u017fS", 1, 2, 2, -1, 3}, {"\u03c2\u03c3\u03a3", 0, 2, 1, -1, 3}, {"\u00e5\u212b", 0, 1, 1, -1, 2}, {"\u00b5\u039c", 0, 1, 1, -1, 2},
		{"\xff\xff", 0, 1, 1, 2, 2},
		// What isn't the same: signs that differ as letters do, letters without another case here, bytes outside any encoding.
		{"@`", 0, 1, 1, -1, -1}, {"[{", 0, 1, 1, -1, -1}, {"\xd7\xf7", 0, 1, 1, -1, -1}, {"\u00d7\u00f7", 0, 1, 1, -1, -1}, {"\u00df\u1e9e", 0, 1, 1, -1, -1}, {"\u0131I", 0, 1, 1, -1, -1}, {"\xe9\xc9", 0, 1, 1, -1, -1}, {"\u00e9\xe9", 0, 1, 1, -1, -1}, {"K\xcb", 0, 1, 1, -1, -1}, {"a\u0430", 0, 1, 1, -1, -1},
	} {
		s := of(t, x.b)
		for mode, want := range map[int]int{ast.Exact: x.exact, ast.Folded: x.folded} {
			end, ok := s.Again(x.from, x.to, x.at, mode)
			if ok != (want >= 0) || end != max(want, 0) {
				t.Errorf("%q: Again(%d, %d, %d, %d) = %d, %t, want %d", x.b, x.from, x.to, x.at, mode, end, ok, want)
			}
		}
	}
}

// Any mode but Folded is the same symbols.
func TestAgainOtherModes(t *testing.T) {
	x := of(t, "abABab")
	for _, mode := range []int{math.MinInt, -1, 0, 2, 3, 257, 1<<32 + 1, math.MaxInt} {
		if end, ok := x.Again(0, 2, 2, mode); ok || end != 0 {
			t.Errorf("mode %d: %d, %t", mode, end, ok)
		}
		if end, ok := x.Again(0, 2, 4, mode); !ok || end != 6 {
			t.Errorf("mode %d: %d, %t", mode, end, ok)
		}
	}
}

// again is Again, by the bytes of a text that has but one a symbol, each of ASCII.
func again(b string, from, to, at, mode int) (int, bool) {
	n := len(b)
	if from < 0 || to < 0 || at < 0 || from > n || to > n || at > n || from > to {
		return 0, false
	}
	s, rest := b[from:to], b[at:]
	if mode == 1 {
		s, rest = strings.ToLower(s), strings.ToLower(rest)
	}
	if !strings.HasPrefix(rest, s) {
		return 0, false
	}
	return at + len(s), true
}

func TestAgainAll(t *testing.T) {
	for _, b := range grown(5, "a", "A", "b") {
		x := of(t, b)
		for from := -1; from <= len(b)+1; from++ {
			for to := -1; to <= len(b)+1; to++ {
				for at := -1; at <= len(b)+1; at++ {
					for mode := -1; mode <= 2; mode++ {
						end, ok := x.Again(from, to, at, mode)
						if want, is := again(b, from, to, at, mode); ok != is || end != want {
							t.Fatalf("%q: Again(%d, %d, %d, %d) = %d, %t", b, from, to, at, mode, end, ok)
						}
					}
				}
			}
		}
	}
}

// Numbers that are no place, of any size.
func TestAgainWrongPlaces(t *testing.T) {
	x := of(t, "aaaa")
	for _, from := range odd(4) {
		for _, to := range odd(4) {
			for _, at := range odd(4) {
				end, ok := x.Again(from, to, at, ast.Folded)
				if want, is := again("aaaa", from, to, at, 1); ok != is || end != want {
					t.Errorf("Again(%d, %d, %d) = %d, %t", from, to, at, end, ok)
				}
			}
		}
	}
}

// Of all symbols, two are the same but for their case where one orbit of layer 3 has both.
func TestAgainAsFold(t *testing.T) {
	for y := range api.MaxSym + 1 {
		if !sym.Is(y) {
			continue
		}
		l := fold.Orbit(y)
		if len(l) == 1 && y%97 > 0 { // those alone are many, and go one way
			continue
		}
		for _, z := range append(l, (y+1)&0x7fff, y^0x20) {
			b, e := sym.Bytes([]int{y, z})
			if e != api.OK {
				continue
			}
			x := of(t, string(b))
			if x.Len() != 2 { // two bytes outside any encoding may be one symbol's
				continue
			}
			if _, ok := x.Again(0, 1, 1, ast.Folded); ok != slices.Contains(l, z) {
				t.Errorf("%x and %x: %t", y, z, ok)
			}
			if _, ok := x.Again(0, 1, 1, ast.Exact); ok != (y == z) {
				t.Errorf("%x and %x, the same: %t", y, z, ok)
			}
		}
	}
}

// As much as a text has room for.
func TestAgainLong(t *testing.T) {
	const half = api.MaxText / 2
	x := of(t, strings.Repeat("a", half)+strings.Repeat("A", half))
	if end, ok := x.Again(0, half, half, ast.Folded); !ok || end != api.MaxText {
		t.Error(end, ok)
	}
	if end, ok := x.Again(0, half, half, ast.Exact); ok || end != 0 {
		t.Error(end, ok)
	}
	if end, ok := x.Again(0, half+1, half, ast.Folded); ok || end != 0 {
		t.Error(end, ok)
	}
	if end, ok := x.Again(0, api.MaxText, 0, ast.Exact); !ok || end != api.MaxText {
		t.Error(end, ok)
	}
	if end, ok := x.Again(0, half-1, 1, ast.Exact); !ok || end != half {
		t.Error(end, ok)
	}
}

// P1 and the rules of memory.

// What the bytes become afterwards, and what stands in their spare room, has no part in the text; they aren't changed.
func TestNewKeepsNothing(t *testing.T) {
	room := []byte("a\n\xc3\xa9 zz")
	b := room[:5]
	x, e := text.New(b)
	if e != api.OK || string(room) != "a\n\xc3\xa9 zz" || x.Len() != 4 {
		t.Fatal(e, room, x.Len())
	}
	for i := range room {
		room[i] = 'Z'
	}
	if l := symbols(x); !slices.Equal(l, []int{'a', 10, 0xe9, ' '}) || !x.Hold(ast.LineEnd, 1) || string(x.Part(0, 4)) != "a\n\xc3\xa9 " {
		t.Errorf("%x", l)
	}
	// A symbol that the spare room would complete is cut off.
	if y, _ := text.New([]byte("\xc3\xa9")[:1]); y.Len() != 1 || y.At(0) != 0x1100c3 {
		t.Errorf("%x", symbols(y))
	}
}

func TestPartsAreNew(t *testing.T) {
	x := of(t, "a\xc3\xa9\xffb")
	told := func() [][]byte {
		return [][]byte{x.Part(0, 4), x.Part(0, 4), x.Part(1, 3), x.Part(-1, 9), x.Part(2, 2), x.Part(3, 4)}
	}
	want := []string{"a\xc3\xa9\xffb", "a\xc3\xa9\xffb", "\xc3\xa9\xff", "a\xc3\xa9\xffb", "", "b"}
	first := told()
	for i, b := range first {
		b = b[:cap(b)]
		for j := range b {
			b[j] = 'Z'
		}
		for k, c := range told() {
			if string(c) != want[k] {
				t.Fatalf("part %d is shared with what is told later", i)
			}
		}
		for k := i + 1; k < len(first); k++ {
			if string(first[k]) != want[k] {
				t.Fatalf("part %d is shared with part %d", i, k)
			}
		}
	}
	if l := symbols(x); !slices.Equal(l, []int{'a', 0xe9, 0x1100ff, 'b'}) {
		t.Errorf("%x", l)
	}
}

// A list that is handed in stays as it is, its spare room too.
func TestInChangesNothing(t *testing.T) {
	room := []rset.Range{{Lo: 'x', Hi: 'z'}, {Lo: 9, Hi: 3}, {Lo: -4, Hi: 'b'}, {Lo: 'a', Hi: 'a'}}
	was := slices.Clone(room)
	x := of(t, "ac")
	if !x.In(0, room[:3]) || x.In(1, room[:3]) || x.In(0, room[:2]) {
		t.Error("In")
	}
	if !slices.Equal(room, was) {
		t.Error(room)
	}
}

// What is asked changes no answer: all are told again, of a copy of the text too, and of another text beside it.
func TestAnswersStay(t *testing.T) {
	x, y := of(t, "aA\nb"), of(t, "\n\n")
	z := x
	for range 3 {
		for _, s := range []text.Text{x, z} {
			if s.Len() != 4 || holds(s, ast.LineBegin) != "1..1." || string(s.Part(1, 3)) != "A\n" || !s.In(3, rset.Of('b')) {
				t.Error(symbols(s))
			}
			if end, ok := s.Again(0, 1, 1, ast.Folded); !ok || end != 2 {
				t.Error(end, ok)
			}
		}
		if y.Len() != 2 || holds(y, ast.LineBegin) != "111" || y.At(1) != 10 {
			t.Error(symbols(y))
		}
		if _, e := text.New(make([]byte, api.MaxText+1)); e != api.ErrLong {
			t.Error(e)
		}
	}
}
