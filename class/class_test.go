package class_test

import (
	"math"
	"slices"
	"strings"
	"testing"

	"clew/api"
	"clew/class"
	"clew/rset"
)

// top is the greatest number that a set can have.
const top = api.MaxSym

// rr are ranges, by their ends.
func rr(ends ...int) []rset.Range {
	var l []rset.Range
	for i := 0; i+1 < len(ends); i += 2 {
		l = append(l, rset.Range{Lo: ends[i], Hi: ends[i+1]})
	}
	return l
}

// named are the chapter's rows, in order, in decimal digits, and each set put in another way, number by number.
func named() []struct {
	name string
	want []rset.Range
	has  func(x int) bool
} {
	return []struct {
		name string
		want []rset.Range
		has  func(x int) bool
	}{
		{"alnum", rr(48, 57, 65, 90, 97, 122), func(x int) bool { return among(x, digits+uppers+lowers) }},
		{"alpha", rr(65, 90, 97, 122), func(x int) bool { return among(x, uppers+lowers) }},
		{"ascii", rr(0, 127), isASCII},
		{"blank", rr(9, 9, 32, 32), func(x int) bool { return among(x, "\t ") }},
		{"cntrl", rr(0, 31, 127, 127), func(x int) bool { return isASCII(x) && !among(x, signs+digits+uppers+lowers+" ") }},
		{"digit", rr(48, 57), func(x int) bool { return among(x, digits) }},
		{"graph", rr(33, 126), func(x int) bool { return among(x, signs+digits+uppers+lowers) }},
		{"lower", rr(97, 122), func(x int) bool { return among(x, lowers) }},
		{"print", rr(32, 126), func(x int) bool { return among(x, signs+digits+uppers+lowers+" ") }},
		{"punct", rr(33, 47, 58, 64, 91, 96, 123, 126), func(x int) bool { return among(x, signs) }},
		{"space", rr(9, 13, 32, 32), func(x int) bool { return among(x, "\t\n\v\f\r ") }},
		{"upper", rr(65, 90), func(x int) bool { return among(x, uppers) }},
		{"word", rr(48, 57, 65, 90, 95, 95, 97, 122), isWord},
		{"xdigit", rr(48, 57, 65, 70, 97, 102), func(x int) bool { return among(x, digits+"ABCDEFabcdef") }},
	}
}

const (
	digits = "0123456789"
	uppers = "ABCDEFGHIJKLMNOPQRSTUVWXYZ"
	lowers = "abcdefghijklmnopqrstuvwxyz"
	signs  = "!\"#$%&'()*+,-./:;<=>?@[\\]^_`{|}~"
)

// among tells whether a number is that of a character of a text of ASCII.
func among(x int, text string) bool {
	return isASCII(x) && strings.IndexByte(text, byte(x)) >= 0
}

func isASCII(x int) bool { return x >= 0 && x < 128 }

func isWord(x int) bool { return among(x, digits+uppers+lowers+"_") }

// numbers are all that a name could have, others around them, and some that would be within if they were cut to fewer bits.
func numbers() []int {
	l := []int{
		math.MinInt, math.MinInt + 'a', -1<<32 + 'a', -top, -'a', -'_', 0x17f, 0x212a, 0x660, 0xd800, 0xff10, 0xff3f, 0xff41, 0x1d7d8,
		0x10ffff, api.Bad, api.Bad + '0', api.Bad + '_', api.Bad + 'a', top - 1, top, top + 1,
		1<<16 + 'a', 1<<31 + 'a', 1<<32 + '0', 1<<32 + '_', 1<<32 + 'a', 1 << 40, math.MaxInt,
	}
	for x := -300; x <= 700; x++ {
		l = append(l, x)
	}
	return l
}

// wrong are names that no set has.
func wrong() []string {
	return []string{
		"", " ", "\x00", "none", "a", "d", "w", "s", "D",
		"Alnum", "ALPHA", "Word", "wORD", "xDigit",
		"alnu", "lnum", "alnumm", "wor", "words", "digit ", " digit", "digit\x00", "\x00digit", "digits", "xdigi", "xxdigit",
		"^alpha", ":alpha:", "[:alpha:]", "alpha:", "alphaalpha", "alpha,alnum", "alpha\n",
		"letter", "any", "hex", "number", "nonword", "cntr1", "spaces", "ascii7",
		"ａｌｐｈａ", "w\xc3\xb6rd", "word\xff", "\xff", "спас", strings.Repeat("word", 4096),
	}
}

// P5.1

func TestNames(t *testing.T) {
	var want []string
	for _, x := range named() {
		want = append(want, x.name)
	}
	if l := class.Names(); !slices.Equal(l, want) {
		t.Errorf("Names() = %q, want %q", l, want)
	}
}

func TestNamed(t *testing.T) {
	for _, x := range named() {
		l, ok := class.Named(x.name)
		if !ok || !slices.Equal(l, x.want) {
			t.Errorf("Named(%q) = %d, %t, want %d", x.name, l, ok, x.want)
		}
		if !rset.Right(l) {
			t.Errorf("Named(%q) = %d isn't the least list", x.name, l)
		}
		for _, y := range numbers() {
			if h := rset.Has(l, y); h != x.has(y) {
				t.Errorf("Named(%q) has %d: %t", x.name, y, h)
			}
		}
	}
}

func TestNamedWrong(t *testing.T) {
	for _, name := range wrong() {
		if l, ok := class.Named(name); ok || len(l) != 0 {
			t.Errorf("Named(%q) = %d, %t", name, l, ok)
		}
	}
}

// Each name by which one is found is told, and no text of up to three letters is one.
func TestNamedAsTold(t *testing.T) {
	for _, name := range class.Names() {
		if l, ok := class.Named(name); !ok || len(l) == 0 {
			t.Errorf("Named(%q) = %d, %t", name, l, ok)
		}
	}
	for _, a := range lowers {
		for _, b := range lowers {
			for _, c := range lowers {
				if _, ok := class.Named(string([]rune{a, b, c})); ok {
					t.Errorf("Named(%c%c%c)", a, b, c)
				}
			}
		}
	}
}

// A name that differs in one byte from one of a set is none.
func TestNamedBesideNames(t *testing.T) {
	names := class.Names()
	for _, name := range names {
		for i := range name {
			for c := range 256 {
				b := []byte(name)
				b[i] = byte(c)
				if _, ok := class.Named(string(b)); ok != slices.Contains(names, string(b)) {
					t.Errorf("Named(%q): %t", b, ok)
				}
			}
		}
	}
}

// P5.2

// letters are those behind a backslash that make a set, and the set.
func letters() map[byte][]rset.Range {
	return map[byte][]rset.Range{
		'd': rr(48, 57),
		'w': rr(48, 57, 65, 90, 95, 95, 97, 122),
		's': rr(9, 13, 32, 32),
		// The first is the chapter's example.
		'D': rr(0, 47, 58, top),
		'W': rr(0, 47, 58, 64, 91, 94, 96, 96, 123, top),
		'S': rr(0, 8, 14, 31, 33, top),
	}
}

// Each byte but those of the six letters makes nothing.
func TestOf(t *testing.T) {
	for c := range 256 {
		want, has := letters()[byte(c)]
		l, ok := class.Of(byte(c))
		if ok != has || !slices.Equal(l, want) {
			t.Errorf("Of(%q) = %d, %t, want %d, %t", byte(c), l, ok, want, has)
		}
	}
}

// A great letter has each number that its small one hasn't, and no number beyond what there is.
func TestOfGreatLetters(t *testing.T) {
	for small, name := range map[byte]string{'d': "digit", 'w': "word", 's': "space"} {
		is, _ := class.Named(name)
		have, ok := class.Of(small)
		not, okNot := class.Of(small - 32)
		if !ok || !okNot || !slices.Equal(have, is) {
			t.Errorf("Of(%q) = %d, want %d", small, have, is)
		}
		if !rset.Right(not) || rset.Count(not)+rset.Count(is) != top+1 {
			t.Errorf("Of(%q) = %d", small-32, not)
		}
		for _, x := range numbers() {
			if h := rset.Has(not, x); h != (x >= 0 && x <= top && !rset.Has(is, x)) {
				t.Errorf("Of(%q) has %d: %t", small-32, x, h)
			}
		}
	}
}

func TestAny(t *testing.T) {
	for _, x := range []struct {
		lines bool
		want  []rset.Range
	}{
		{true, rr(0, top)},
		{false, rr(0, 9, 11, top)},
	} {
		l := class.Any(x.lines)
		if !slices.Equal(l, x.want) {
			t.Errorf("Any(%t) = %d, want %d", x.lines, l, x.want)
		}
		for _, y := range numbers() {
			if h := rset.Has(l, y); h != (y >= 0 && y <= top && (x.lines || y != 10)) {
				t.Errorf("Any(%t) has %d: %t", x.lines, y, h)
			}
		}
	}
}

func TestWord(t *testing.T) {
	for _, x := range []struct {
		x    int
		want bool
	}{
		{'0' - 1, false}, {'0', true}, {'5', true}, {'9', true}, {'9' + 1, false},
		{'A' - 1, false}, {'A', true}, {'M', true}, {'Z', true}, {'Z' + 1, false},
		{'_' - 1, false}, {'_', true}, {'_' + 1, false},
		{'a', true}, {'m', true}, {'z', true}, {'z' + 1, false},
		{' ', false}, {'-', false}, {0, false}, {-1, false}, {127, false}, {128, false}, {top, false}, {top + 1, false},
		// Letters, digits and joiners outside ASCII, and bytes outside any encoding.
		{0xe9, false}, {0x17f, false}, {0x212a, false}, {0x660, false}, {0x203f, false}, {0xff3f, false}, {api.Bad + 'a', false}, {api.Bad + 0xe9, false},
		// Numbers that would be a word's if they were cut to fewer bits, or had no sign.
		{256 + 'a', false}, {-256 + 'a', false}, {1<<32 + 'a', false}, {-1<<32 + 'a', false}, {-'a', false}, {math.MinInt + 'a', false},
		{math.MinInt, false}, {math.MaxInt, false}, {1 << 40, false},
	} {
		if w := class.Word(x.x); w != x.want {
			t.Errorf("Word(%d) = %t", x.x, w)
		}
	}
}

// Word goes by the set of this name, and by the letter's, at each number.
func TestWordAsNamed(t *testing.T) {
	word, _ := class.Named("word")
	w, _ := class.Of('w')
	for _, x := range numbers() {
		if is := class.Word(x); is != isWord(x) || is != rset.Has(word, x) || is != rset.Has(w, x) {
			t.Errorf("Word(%d) = %t", x, is)
		}
	}
	for x := -1; x <= top+1; x++ {
		if class.Word(x) != isWord(x) {
			t.Fatalf("Word(%d) = %t", x, class.Word(x))
		}
	}
}

// P1 and the rule of memory: nothing that is told is shared, and what is done to it changes nothing.

// spoil writes over all of a list's memory, its spare room too.
func spoil[E any](l []E, x E) {
	l = l[:cap(l)]
	for i := range l {
		l[i] = x
	}
}

// told are all lists that the calls tell.
func told() [][]rset.Range {
	var all [][]rset.Range
	for _, x := range named() {
		l, _ := class.Named(x.name)
		all = append(all, l)
	}
	for c := range 256 {
		l, _ := class.Of(byte(c))
		all = append(all, l)
	}
	return append(all, class.Any(true), class.Any(false))
}

func TestAnswersAreNew(t *testing.T) {
	same := func(a, b []rset.Range) bool { return slices.Equal(a, b) }
	first, second := told(), told()
	var want [][]rset.Range
	for _, l := range second {
		want = append(want, slices.Clone(l))
	}
	for i, l := range first {
		spoil(l, rset.Range{Lo: -77, Hi: math.MaxInt})
		if !slices.EqualFunc(second, want, same) {
			t.Fatalf("answer %d shares memory with another one", i)
		}
		if !slices.EqualFunc(told(), want, same) {
			t.Fatalf("answer %d shares memory with what is told later", i)
		}
		// Those of one round share none either.
		if i+1 < len(first) && !slices.EqualFunc(first[i+1:], want[i+1:], same) {
			t.Fatalf("answer %d shares memory with one behind it", i)
		}
	}
	if !class.Word('_') || class.Word('-') || class.Word(-77) {
		t.Error("Word goes by what was told")
	}
}

func TestNamesAreNew(t *testing.T) {
	first, second := class.Names(), class.Names()
	want := slices.Clone(second)
	spoil(first, "none")
	if !slices.Equal(second, want) || !slices.Equal(class.Names(), want) {
		t.Error("answers share memory")
	}
	if _, ok := class.Named("none"); ok {
		t.Error("Named goes by what was told")
	}
	if l, ok := class.Named("alnum"); !ok || !slices.Equal(l, rr(48, 57, 65, 90, 97, 122)) {
		t.Errorf("Named = %d, %t", l, ok)
	}
}
