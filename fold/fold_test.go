package fold_test

import (
	"maps"
	"math"
	"slices"
	"testing"
	"unicode"

	"clew/api"
	"clew/fold"
	"clew/rset"
)

// top is the greatest number that is in an orbit.
const top = api.MaxSym

// rr are ranges, by their ends.
func rr(ends ...int) []rset.Range {
	var l []rset.Range
	for i := 0; i+1 < len(ends); i += 2 {
		l = append(l, rset.Range{Lo: ends[i], Hi: ends[i+1]})
	}
	return l
}

// modelGoes is, of each letter that goes with another one, that one: the chapter's table, letter by letter.
func modelGoes() map[int]int {
	m := map[int]int{0xb5: 0x3bc, 0x178: 0xff, 0x17f: 0x73, 0x3c2: 0x3c3, 0x212a: 0x6b, 0x212b: 0xe5}
	for _, r := range [][4]int{
		{0x41, 0x5a, 1, 32}, {0xc0, 0xd6, 1, 32}, {0xd8, 0xde, 1, 32}, {0x100, 0x12e, 2, 1}, {0x132, 0x136, 2, 1},
		{0x139, 0x147, 2, 1}, {0x14a, 0x176, 2, 1}, {0x179, 0x17d, 2, 1}, {0x391, 0x3a1, 1, 32}, {0x3a3, 0x3ab, 1, 32},
		{0x400, 0x40f, 1, 80}, {0x410, 0x42f, 1, 32}, {0x460, 0x480, 2, 1}, {0x531, 0x556, 1, 48}, {0x1e00, 0x1e94, 2, 1},
		{0x24b6, 0x24cf, 1, 26}, {0xff21, 0xff3a, 1, 32}, {0x10400, 0x10427, 1, 40},
	} {
		for x := r[0]; x <= r[1]; x += r[2] {
			m[x] = x + r[3]
		}
	}
	return m
}

// modelOrbits are the orbits of more than one number, by each of their numbers, rising.
func modelOrbits() map[int][]int {
	all := map[int][]int{}
	for upper, low := range modelGoes() {
		if all[low] == nil {
			all[low] = []int{low}
		}
		all[low] = append(all[low], upper)
	}
	out := map[int][]int{}
	for _, l := range all {
		slices.Sort(l)
		for _, x := range l {
			out[x] = l
		}
	}
	return out
}

// modelClose is the chapter's rule word by word: the least list of all numbers of the orbits of those for which a list stands.
func modelClose(orbits map[int][]int, l []rset.Range) []rset.Range {
	in := make([]bool, top+1)
	for _, r := range rset.Make(l) {
		for x := r.Lo; x <= r.Hi; x++ {
			in[x] = true
		}
	}
	for x, orbit := range orbits {
		if rset.Has(l, x) {
			for _, y := range orbit {
				in[y] = true
			}
		}
	}
	var out []rset.Range
	for x, has := range in {
		switch {
		case !has:
		case x > 0 && in[x-1]:
			out[len(out)-1].Hi = x
		default:
			out = append(out, rset.Range{Lo: x, Hi: x})
		}
	}
	return out
}

// outside are numbers that are in no orbit, some of which would be if they were cut to fewer bits.
func outside() []int {
	return []int{
		math.MinInt, math.MinInt + 32, math.MinInt + 'a', -1<<32 + 'a', -1 << 32, -top, -'a', -32, -7, -1,
		top + 1, top + 33, 0x200000 + 'k', 1 << 31, 1 << 32, 1<<32 + 'a', 1<<32 + 'K', math.MaxInt - 32, math.MaxInt,
	}
}

// P3.1

func TestOrbit(t *testing.T) {
	for _, want := range [][]int{
		// The chapter's examples.
		{0x4b, 0x6b, 0x212a}, {0x3a3, 0x3c2, 0x3c3},
		// Those of three.
		{'S', 's', 0x17f}, {0xc5, 0xe5, 0x212b}, {0xb5, 0x39c, 0x3bc},
		// The one whose upper letter is the greater one.
		{0xff, 0x178},
		// Each row's first and last letter.
		{'A', 'a'}, {'Z', 'z'}, {0xc0, 0xe0}, {0xd6, 0xf6}, {0xd8, 0xf8}, {0xde, 0xfe},
		{0x100, 0x101}, {0x12e, 0x12f}, {0x132, 0x133}, {0x136, 0x137}, {0x139, 0x13a}, {0x147, 0x148},
		{0x14a, 0x14b}, {0x176, 0x177}, {0x179, 0x17a}, {0x17d, 0x17e},
		{0x391, 0x3b1}, {0x3a1, 0x3c1}, {0x3ab, 0x3cb},
		{0x400, 0x450}, {0x40f, 0x45f}, {0x410, 0x430}, {0x42f, 0x44f}, {0x460, 0x461}, {0x480, 0x481},
		{0x531, 0x561}, {0x556, 0x586}, {0x1e00, 0x1e01}, {0x1e94, 0x1e95},
		{0x24b6, 0x24d0}, {0x24cf, 0x24e9}, {0xff21, 0xff41}, {0xff3a, 0xff5a}, {0x10400, 0x10428}, {0x10427, 0x1044f},
		// Within rows that go by steps.
		{0x102, 0x103}, {0x134, 0x135}, {0x13b, 0x13c}, {0x150, 0x151}, {0x17b, 0x17c}, {0x462, 0x463}, {0x1e40, 0x1e41},
	} {
		for _, x := range want {
			if l := fold.Orbit(x); !slices.Equal(l, want) {
				t.Errorf("Orbit(%x) = %x, want %x", x, l, want)
			}
			if y := fold.Fold(x); y != want[0] {
				t.Errorf("Fold(%x) = %x, want %x", x, y, want[0])
			}
		}
	}
}

// alone are numbers that are the same as no other one: those beside the rows' ends, those between rows, and those that are no letters, or no symbols.
func alone() []int {
	return []int{
		0, '0', '9', '@', '[', '`', '{', 0x7f, 0xaa, 0xb4, 0xb6, 0xbf, 0xd7, 0xdf, 0xf7,
		0x130, 0x131, 0x138, 0x149, 0x180, 0x390, 0x3a2, 0x3ac, 0x3b0, 0x3cc, 0x3ff, 0x482, 0x530, 0x557, 0x560, 0x587,
		0x1dff, 0x1e96, 0x1e97, 0x1e9e, 0x2129, 0x212c, 0x24b5, 0x24ea, 0xff20, 0xff3b, 0xff40, 0xff5b, 0x103ff, 0x10450,
		0xd7ff, 0xd800, 0xdfff, 0xe000, 0x10ffff, api.Bad, api.Bad + 'a', api.Bad + 'A', 0x11007f, 0x110080, 0x1100c5, 0x1100e5, top - 1, top,
	}
}

func TestOrbitAlone(t *testing.T) {
	for _, x := range alone() {
		if l := fold.Orbit(x); !slices.Equal(l, []int{x}) {
			t.Errorf("Orbit(%x) = %x", x, l)
		}
		if y := fold.Fold(x); y != x {
			t.Errorf("Fold(%x) = %x", x, y)
		}
	}
}

func TestOutside(t *testing.T) {
	for _, x := range outside() {
		if l := fold.Orbit(x); len(l) != 0 {
			t.Errorf("Orbit(%d) = %d", x, l)
		}
		if y := fold.Fold(x); y != x {
			t.Errorf("Fold(%d) = %d", x, y)
		}
	}
}

// All numbers that there are go by the chapter's table.
func TestEachNumber(t *testing.T) {
	orbits := modelOrbits()
	for x := 0; x <= top; x++ {
		want := orbits[x]
		if want == nil {
			want = []int{x}
		}
		if l := fold.Orbit(x); !slices.Equal(l, want) {
			t.Fatalf("Orbit(%x) = %x, want %x", x, l, want)
		}
		if y := fold.Fold(x); y != want[0] {
			t.Fatalf("Fold(%x) = %x, want %x", x, y, want[0])
		}
	}
}

// The chapter takes its letters from Unicode, which has more of them: whatever is the same here is the same there.
func TestOrbitsAreUnicodes(t *testing.T) {
	for x := rune(0); x <= unicode.MaxRune; x++ {
		there := []int{int(x)}
		for y := unicode.SimpleFold(x); y != x; y = unicode.SimpleFold(y) {
			there = append(there, int(y))
		}
		for _, y := range fold.Orbit(int(x)) {
			if !slices.Contains(there, y) {
				t.Errorf("Orbit(%x) has %x", x, y)
			}
		}
	}
}

func TestSame(t *testing.T) {
	for _, x := range []struct {
		x, y int
		want bool
	}{
		{'a', 'a', true}, {'a', 'A', true}, {'A', 'A', true}, {'a', 'b', false}, {'a', 'B', false}, {'a', '!', false},
		{'k', 0x212a, true}, {'K', 0x212a, true}, {'k', 'j', false}, {0x212a, 0x212b, false},
		{'s', 0x17f, true}, {'S', 0x17f, true}, {'s', 0xdf, false},
		{0xb5, 0x3bc, true}, {0xb5, 0x39c, true}, {0x39c, 0x3bc, true},
		{0x3c2, 0x3a3, true}, {0x3c2, 0x3c3, true}, {0x3c2, 0x3a2, false},
		{0xe5, 0x212b, true}, {0xc5, 0x212b, true}, {0xff, 0x178, true}, {0xdf, 0xff, false}, {0xd7, 0xf7, false},
		// Beside one another, but of one row's step, or of none.
		{0x100, 0x101, true}, {0x101, 0x102, false}, {0x139, 0x13a, true}, {0x138, 0x139, false}, {0x13a, 0x13b, false},
		{'@', '`', false}, {'[', '{', false}, {0, 32, false},
		// The byte 0x61 outside any encoding would be no a.
		{'a', api.Bad + 'a', false}, {0x1100c5, 0x1100e5, false}, {0xe5, 0x1100e5, false}, {0xd800, 0xd800, true},
		// Numbers in no orbit are the same as themselves alone.
		{-7, -7, true}, {-7, -8, false}, {-7, 7, false}, {-'a', 'a', false}, {top + 1, top + 1, true}, {top + 1, top + 2, false}, {top, top + 1, false},
		{1<<32 + 'a', 'a', false}, {1<<32 + 'a', 1<<32 + 'A', false}, {-1<<32 + 'k', 'k', false},
		{math.MinInt, math.MinInt, true}, {math.MinInt, math.MaxInt, false}, {math.MinInt, 0, false}, {math.MaxInt, math.MaxInt - 32, false},
	} {
		if s := fold.Same(x.x, x.y); s != x.want {
			t.Errorf("Same(%x, %x) = %t", x.x, x.y, s)
		}
		if s := fold.Same(x.y, x.x); s != x.want {
			t.Errorf("Same(%x, %x) = %t", x.y, x.x, s)
		}
	}
}

// Two numbers are the same where one is in the other one's orbit, for all pairs of those that aren't alone, and some that are.
func TestSamePairs(t *testing.T) {
	orbits := modelOrbits()
	all := slices.Concat(slices.Sorted(maps.Keys(orbits)), alone(), outside())
	for _, x := range all {
		for _, y := range all {
			want := x == y || slices.Contains(orbits[x], y)
			if s := fold.Same(x, y); s != want {
				t.Fatalf("Same(%x, %x) = %t", x, y, s)
			}
		}
	}
}

// P3.2

func TestClose(t *testing.T) {
	for _, x := range []struct{ l, want []rset.Range }{
		// Nothing, and what stands for nothing.
		{nil, nil},
		{[]rset.Range{}, nil},
		{rr('z', 'a'), nil},
		{rr(-9, -1), nil},
		{rr(top+1, top+9), nil},
		{rr(-'a', -'a', 1<<32+'a', 1<<32+'z'), nil},
		{rr(math.MaxInt, math.MinInt), nil},
		// Those that are alone.
		{rr('0', '9'), rr('0', '9')},
		{rr(0xd7, 0xd7), rr(0xd7, 0xd7)},
		{rr(0xd800, 0xdfff), rr(0xd800, 0xdfff)},
		{rr(0x110000, top), rr(0x110000, top)},
		// One letter, from each of its cases.
		{rr('b', 'b'), rr('B', 'B', 'b', 'b')},
		{rr('B', 'B'), rr('B', 'B', 'b', 'b')},
		{rr('k', 'k'), rr('K', 'K', 'k', 'k', 0x212a, 0x212a)},
		{rr('K', 'K'), rr('K', 'K', 'k', 'k', 0x212a, 0x212a)},
		{rr(0x212a, 0x212a), rr('K', 'K', 'k', 'k', 0x212a, 0x212a)},
		{rr(0x212b, 0x212b), rr(0xc5, 0xc5, 0xe5, 0xe5, 0x212b, 0x212b)},
		{rr(0x17f, 0x17f), rr('S', 'S', 's', 's', 0x17f, 0x17f)},
		{rr(0xb5, 0xb5), rr(0xb5, 0xb5, 0x39c, 0x39c, 0x3bc, 0x3bc)},
		{rr(0x39c, 0x39c), rr(0xb5, 0xb5, 0x39c, 0x39c, 0x3bc, 0x3bc)},
		{rr(0x3a3, 0x3a3), rr(0x3a3, 0x3a3, 0x3c2, 0x3c3)},
		{rr(0x178, 0x178), rr(0xff, 0xff, 0x178, 0x178)},
		{rr(0xff, 0xff), rr(0xff, 0xff, 0x178, 0x178)},
		// Some letters, and whole rows.
		{rr('b', 'c'), rr('B', 'C', 'b', 'c')},
		{rr('A', 'Z'), rr('A', 'Z', 'a', 'z', 0x17f, 0x17f, 0x212a, 0x212a)},
		{rr('a', 'z'), rr('A', 'Z', 'a', 'z', 0x17f, 0x17f, 0x212a, 0x212a)},
		{rr('X', 'c'), rr('A', 'C', 'X', 'c', 'x', 'z')},
		{rr(0x391, 0x3ab), rr(0xb5, 0xb5, 0x391, 0x3ab, 0x3b1, 0x3cb)},
		{rr(0x3a2, 0x3a2), rr(0x3a2, 0x3a2)},
		{rr(0x41e, 0x422), rr(0x41e, 0x422, 0x43e, 0x442)},
		{rr(0x40e, 0x411), rr(0x40e, 0x411, 0x430, 0x431, 0x45e, 0x45f)},
		// Those by steps join where their other cases lie between.
		{rr(0x100, 0x100, 0x102, 0x102), rr(0x100, 0x103)},
		{rr(0x101, 0x102), rr(0x100, 0x103)},
		{rr(0x101, 0x101), rr(0x100, 0x101)},
		{rr(0x138, 0x139), rr(0x138, 0x13a)},
		{rr(0x148, 0x14a), rr(0x147, 0x14b)},
		// All, and cut to what there is.
		{rr(0, top), rr(0, top)},
		{rr(math.MinInt, math.MaxInt), rr(0, top)},
		{rr(math.MinInt, 'B', 0x110000, math.MaxInt), rr(0, 'B', 'a', 'b', 0x110000, top)},
		// Lists that aren't least ones.
		{rr('c', 'c', 'a', 'b'), rr('A', 'C', 'a', 'c')},
		{rr('a', 'c', 'a', 'b', 'b', 'c'), rr('A', 'C', 'a', 'c')},
		{rr('9', '0', 'q', 'q', '5', '4'), rr('Q', 'Q', 'q', 'q')},
		{rr('5', '5', '4', '4', -3, -1), rr('4', '5')},
	} {
		if l := fold.Close(x.l); !slices.Equal(l, x.want) {
			t.Errorf("Close(%x) = %x, want %x", x.l, l, x.want)
		}
	}
}

// Close goes by the orbits at each number that isn't alone, and beside it.
func TestCloseEachLetter(t *testing.T) {
	orbits := modelOrbits()
	for x := range orbits {
		for y := x - 1; y <= x+1; y++ {
			var want []rset.Range
			for _, z := range fold.Orbit(y) {
				want = append(want, rset.Range{Lo: z, Hi: z})
			}
			want = rset.Make(want)
			if l := fold.Close(rr(y, y)); !slices.Equal(l, want) {
				t.Fatalf("Close of %x alone = %x, want %x", y, l, want)
			}
		}
	}
}

// edges are numbers beside which what Close tells changes.
func edges() []int {
	return []int{
		-1, 'K', 'Z', 'k', 0xb5, 0xde, 0xff, 0x101, 0x138, 0x178, 0x17f, 0x39c, 0x3a2, 0x3c2, 0x40f, 0x44f, 0x461, 0x586,
		0x1e94, 0x212a, 0x212b, 0x24cf, 0xd800, 0xff21, 0x10413, 0x1044f, api.Bad, top, top + 1,
	}
}

// Close goes by the orbits for all ranges between the edges, and twice is as once.
func TestCloseRanges(t *testing.T) {
	orbits := modelOrbits()
	for _, lo := range edges() {
		for _, hi := range edges() {
			want := modelClose(orbits, rr(lo, hi))
			if l := fold.Close(rr(lo, hi)); !slices.Equal(l, want) {
				t.Fatalf("Close(%x, %x) = %x, want %x", lo, hi, l, want)
			}
			if l := fold.Close(want); !slices.Equal(l, want) {
				t.Fatalf("Close(%x) = %x", want, l)
			}
		}
	}
}

// Many ranges, from behind and twice, are closed as few are.
func TestCloseMany(t *testing.T) {
	var l []rset.Range
	for x := 0x2200; x >= 0; x -= 3 {
		l = append(l, rset.Range{Lo: x, Hi: x}, rset.Range{Lo: x, Hi: x})
	}
	want := modelClose(modelOrbits(), l)
	if m := fold.Close(l); !slices.Equal(m, want) {
		t.Errorf("%d ranges, want %d", len(m), len(want))
	}
}

// P1 and the rule of memory: nothing that is handed in is changed, and nothing that is told is shared.

func TestArgumentsStay(t *testing.T) {
	for _, x := range [][]rset.Range{nil, rr('b', 'c'), rr('c', 'c', 'a', 'b'), rr('0', '9'), rr('9', '0', 'k', 'k'), rr(-5, 'a', 'z', 1<<40)} {
		all := append(slices.Clone(x), rr('q', 'q', -7, -7, 'x', 'a', -9, -9)...)
		was := slices.Clone(all)
		first := fold.Close(all[:len(x)])
		spoil(first, rset.Range{Lo: -77, Hi: -77})
		if !slices.Equal(all, was) {
			t.Errorf("%x became %x", was, all)
		}
	}
}

// spoil writes over all of a list's memory, its spare room too.
func spoil[E any](l []E, x E) {
	l = l[:cap(l)]
	for i := range l {
		l[i] = x
	}
}

func TestAnswersAreNew(t *testing.T) {
	for _, x := range []int{'1', 'a', 'K', 0x212a, 0x178, 0x3c2, top} {
		first, second := fold.Orbit(x), fold.Orbit(x)
		want := slices.Clone(second)
		spoil(first, -77)
		if !slices.Equal(second, want) || !slices.Equal(fold.Orbit(x), want) {
			t.Errorf("Orbit(%x): answers share memory", x)
		}
	}
	for _, x := range [][]rset.Range{rr('0', '9'), rr('b', 'c'), rr('k', 'k'), rr(0, top)} {
		first, second := fold.Close(x), fold.Close(x)
		want := slices.Clone(second)
		spoil(first, rset.Range{Lo: -77, Hi: -77})
		if !slices.Equal(second, want) || !slices.Equal(fold.Close(x), want) {
			t.Errorf("Close(%x): answers share memory", x)
		}
	}
}
