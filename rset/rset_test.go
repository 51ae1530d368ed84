package rset

import (
	"math"
	"slices"
	"testing"

	"clew/api"
)

// rr are ranges, by their ends.
func rr(ends ...int) []Range {
	var l []Range
	for i := 0; i+1 < len(ends); i += 2 {
		l = append(l, Range{ends[i], ends[i+1]})
	}
	return l
}

// top is the greatest number for which a list can stand.
const top = api.MaxSym

// cases are lists, and the least list of the numbers of each.
func cases() []struct{ l, least []Range } {
	return []struct{ l, least []Range }{
		// The chapter's example.
		{rr(5, 7, 1, 2, 3, 4), rr(1, 7)},
		// Nothing: no range, or none that has a number.
		{nil, nil},
		{[]Range{}, nil},
		{rr(3, 2), nil},
		{rr(3, 2, 9, 8), nil},
		{rr(top, 0), nil},
		{rr(math.MaxInt, math.MinInt), nil},
		// Those that are least already.
		{rr(0, 0), rr(0, 0)},
		{rr(7, 7), rr(7, 7)},
		{rr(top, top), rr(top, top)},
		{rr(0, top), rr(0, top)},
		{rr(1, 2, 4, 4), rr(1, 2, 4, 4)},
		{rr(0, 3, 5, 9, 20, top), rr(0, 3, 5, 9, 20, top)},
		// The lower ones first.
		{rr(4, 6, 1, 2), rr(1, 2, 4, 6)},
		{rr(9, 9, 7, 7, 5, 5, 3, 3), rr(3, 3, 5, 5, 7, 7, 9, 9)},
		{rr(30, 31, 10, 11, 20, 21), rr(10, 11, 20, 21, 30, 31)},
		// Side by side, one number between, and on one another.
		{rr(1, 2, 3, 4), rr(1, 4)},
		{rr(1, 1, 2, 2, 3, 3), rr(1, 3)},
		{rr(3, 3, 1, 1, 2, 2), rr(1, 3)},
		{rr(4, 6, 1, 3), rr(1, 6)},
		{rr(1, 2, 4, 5), rr(1, 2, 4, 5)},
		{rr(1, 2, 4, 5, 3, 3), rr(1, 5)},
		{rr(1, 5, 5, 9), rr(1, 9)},
		{rr(1, 6, 4, 9), rr(1, 9)},
		{rr(4, 9, 1, 6), rr(1, 9)},
		{rr(5, 5, 5, 5), rr(5, 5)},
		{rr(2, 8, 2, 8, 2, 8), rr(2, 8)},
		// One within another one: it doesn't cut that short.
		{rr(1, 9, 2, 3), rr(1, 9)},
		{rr(1, 9, 2, 3, 9, 12), rr(1, 12)},
		{rr(1, 9, 2, 3, 5, 6, 11, 12), rr(1, 9, 11, 12)},
		{rr(2, 3, 2, 9), rr(2, 9)},
		{rr(2, 9, 2, 3), rr(2, 9)},
		{rr(2, 9, 5, 9), rr(2, 9)},
		// A range without a number neither parts others nor joins them.
		{rr(1, 2, 5, 3, 3, 4), rr(1, 4)},
		{rr(1, 2, 9, 3, 9, 9), rr(1, 2, 9, 9)},
		{rr(1, 1, 3, 2, 3, 3), rr(1, 1, 3, 3)},
		// What isn't from 0 to MaxSym isn't stood for.
		{rr(-5, -1), nil},
		{rr(-1, -1), nil},
		{rr(-5, 0), rr(0, 0)},
		{rr(-5, 4), rr(0, 4)},
		{rr(-5, -1, 0, 2), rr(0, 2)},
		{rr(-5, -1, 1, 2), rr(1, 2)},
		{rr(top+1, top+9), nil},
		{rr(top+1, top+1), nil},
		{rr(top, top+9), rr(top, top)},
		{rr(9, 1<<40), rr(9, top)},
		{rr(top-1, top-1, top+1, top+1), rr(top-1, top-1)},
		{rr(top-1, top-1, top, top), rr(top-1, top)},
		{rr(-9, top+9), rr(0, top)},
		{rr(math.MinInt, math.MaxInt), rr(0, top)},
		{rr(math.MinInt, -1, top+1, math.MaxInt), nil},
		{rr(math.MinInt, 3, 5, math.MaxInt), rr(0, 3, 5, top)},
		{rr(math.MinInt, math.MaxInt, 3, 4, math.MaxInt, math.MaxInt, math.MinInt, math.MinInt), rr(0, top)},
		{rr(math.MinInt, math.MinInt), nil},
		{rr(math.MaxInt, math.MaxInt), nil},
		// Numbers that would be within if they were cut to fewer bits.
		{rr(1<<32+1, 1<<32+5), nil},
		{rr(-1<<32, -1<<32+5), nil},
		// Numbers that are no symbols (layer 1) are numbers as others are.
		{rr(0xd800, 0xdfff), rr(0xd800, 0xdfff)},
		{rr(0x110000, 0x11007f), rr(0x110000, 0x11007f)},
		{rr(0x10ffff, 0x10ffff, 0x110000, 0x110000), rr(0x10ffff, 0x110000)},
	}
}

// stands is the chapter's rule word by word: which numbers a list stands for.
func stands(l []Range, x int) bool {
	if x < 0 || x > top {
		return false
	}
	for _, r := range l {
		if r.Lo <= x && x <= r.Hi {
			return true
		}
	}
	return false
}

// modelStop ends the numbers from 0 on among which the ends of small lists lie, and modelTop begins those up to top.
const modelStop, modelTop = 6, top - 3

// modelLeast is the least list of the numbers for which a function tells true, if it tells the same from modelStop to modelTop.
func modelLeast(in func(x int) bool) []Range {
	var l []Range
	open := false
	put := func(lo, hi int) {
		switch {
		case !in(lo):
			open = false
		case open:
			l[len(l)-1].Hi = hi
		default:
			l = append(l, Range{lo, hi})
			open = true
		}
	}
	for x := 0; x < modelStop; x++ {
		put(x, x)
	}
	put(modelStop, modelTop)
	for x := modelTop + 1; x <= top; x++ {
		put(x, x)
	}
	return l
}

// modelCount is for how many numbers a least list stands.
func modelCount(l []Range) int {
	n := 0
	for _, r := range l {
		n += r.Hi - r.Lo + 1
	}
	return n
}

// ranges are all ranges between some ends that fit modelLeast, also those that have no number.
func ranges(los, his []int) []Range {
	var l []Range
	for _, lo := range los {
		for _, hi := range his {
			l = append(l, Range{lo, hi})
		}
	}
	return l
}

// eachSmall hands on all lists of up to three ranges with ends at the edges of what is stood for.
func eachSmall(do func(l []Range)) {
	los := []int{math.MinInt, 0, 1, 3, top, top + 1}
	his := []int{-1, 0, 1, 2, modelTop, top, math.MaxInt}
	all := ranges(los, his)
	do(nil)
	for _, a := range all {
		do([]Range{a})
		for _, b := range all {
			do([]Range{a, b})
			for _, c := range all {
				do([]Range{a, b, c})
			}
		}
	}
}

// pairs hands on all pairs of lists of up to two ranges with ends close by one another.
func pairs(do func(a, b []Range)) {
	all := ranges([]int{-1, 0, 2, 4, top}, []int{-1, 1, 3, top - 1, top + 1})
	lists := [][]Range{nil}
	for _, a := range all {
		lists = append(lists, []Range{a})
		for _, b := range all {
			lists = append(lists, []Range{a, b})
		}
	}
	for _, a := range lists {
		for _, b := range lists {
			do(a, b)
		}
	}
}

// P2.1

func TestMake(t *testing.T) {
	for _, x := range cases() {
		if l := Make(x.l); !slices.Equal(l, x.least) {
			t.Errorf("Make(%d) = %d, want %d", x.l, l, x.least)
		}
		if l := Make(x.least); !slices.Equal(l, x.least) {
			t.Errorf("Make(%d) = %d", x.least, l)
		}
	}
}

func TestRight(t *testing.T) {
	for _, x := range cases() {
		if r, want := Right(x.l), slices.Equal(x.l, x.least); r != want {
			t.Errorf("Right(%d) = %t", x.l, r)
		}
		if !Right(x.least) {
			t.Errorf("Right(%d) = false", x.least)
		}
	}
}

// What keeps a list from being the least one, each alone.
func TestRightWrong(t *testing.T) {
	for _, l := range [][]Range{
		rr(4, 3), rr(1, 2, 4, 3), rr(4, 3, 6, 7), rr(1, 0, 3, 4),
		rr(1, 2, 3, 4), rr(1, 2, 2, 4), rr(1, 5, 2, 4), rr(1, 2, 1, 2), rr(1, 2, 9, 9, 10, 10),
		rr(4, 5, 1, 2), rr(1, 2, 8, 9, 4, 5),
		rr(-1, 2), rr(-1, -1), rr(-2, -1, 1, 2), rr(math.MinInt, 0),
		rr(0, top+1), rr(top+1, top+1), rr(0, 1, top+1, top+1), rr(0, math.MaxInt),
		rr(math.MinInt, math.MaxInt), rr(math.MaxInt, math.MinInt),
	} {
		if Right(l) {
			t.Errorf("Right(%d) = true", l)
		}
	}
}

func TestHas(t *testing.T) {
	for _, x := range cases() {
		for _, y := range around(x.l) {
			if h := Has(x.l, y); h != stands(x.l, y) {
				t.Errorf("Has(%d, %d) = %t", x.l, y, h)
			}
		}
	}
}

// around are numbers at the ends of a list's ranges and of all that there are.
func around(l []Range) []int {
	out := []int{math.MinInt, -1, 0, 1, top - 1, top, top + 1, math.MaxInt}
	for _, r := range l {
		for d := -1; d <= 1; d++ {
			out = append(out, r.Lo+d, r.Hi+d)
		}
	}
	return out
}

// A list that isn't the least one is looked through to its end.
func TestHasUnordered(t *testing.T) {
	l := rr(20, 29, 9, 8, 40, 49, 1, 3, 0, 60, 5, 2)
	for x := -2; x <= 70; x++ {
		if h := Has(l, x); h != (x >= 0 && x <= 60) {
			t.Errorf("Has(%d) = %t", x, h)
		}
	}
}

func TestHasOutside(t *testing.T) {
	l := rr(math.MinInt, math.MaxInt, -1, -1, top+1, top+1)
	for _, x := range []int{math.MinInt, -1<<32 + 5, -1, top + 1, 1 << 32, math.MaxInt} {
		if Has(l, x) {
			t.Errorf("Has(%d) = true", x)
		}
	}
	for _, x := range []int{0, 5, top} {
		if !Has(l, x) {
			t.Errorf("Has(%d) = false", x)
		}
		if Has(nil, x) {
			t.Errorf("Has(nil, %d) = true", x)
		}
	}
}

func TestCount(t *testing.T) {
	for _, x := range cases() {
		if n := Count(x.l); n != modelCount(x.least) {
			t.Errorf("Count(%d) = %d, want %d", x.l, n, modelCount(x.least))
		}
	}
	for _, x := range []struct {
		l    []Range
		want int
	}{
		{nil, 0}, {rr(4, 3), 0}, {rr(4, 4), 1}, {rr(1, 5, 10, 20), 16}, {rr(1, 5, 3, 7), 7}, {rr(1, 5, 1, 5), 5},
		{rr(-9, -1), 0}, {rr(-9, 1), 2}, {rr(top, top+9), 1}, {rr(0, top), top + 1}, {rr(math.MinInt, math.MaxInt), 0x110100},
	} {
		if n := Count(x.l); n != x.want {
			t.Errorf("Count(%d) = %d, want %d", x.l, n, x.want)
		}
	}
}

// The calls of one list hold for all small lists.
func TestSmallLists(t *testing.T) {
	eachSmall(func(l []Range) {
		want := modelLeast(func(x int) bool { return stands(l, x) })
		gaps := modelLeast(func(x int) bool { return !stands(l, x) })
		switch {
		case !slices.Equal(Make(l), want):
			t.Fatalf("Make(%d) = %d, want %d", l, Make(l), want)
		case Right(l) != slices.Equal(l, want):
			t.Fatalf("Right(%d) = %t", l, Right(l))
		case Count(l) != modelCount(want):
			t.Fatalf("Count(%d) = %d", l, Count(l))
		case !slices.Equal(Not(l), gaps):
			t.Fatalf("Not(%d) = %d, want %d", l, Not(l), gaps)
		}
		for _, x := range []int{-1, 0, 1, 2, 3, 4, 9, modelTop, top, top + 1} {
			if Has(l, x) != stands(l, x) {
				t.Fatalf("Has(%d, %d) = %t", l, x, Has(l, x))
			}
		}
	})
}

// Many ranges, handed in from behind and twice, are ordered and joined as few are.
func TestManyRanges(t *testing.T) {
	const n = 2000
	var apart, close, want []Range
	for i := n - 1; i >= 0; i-- {
		j := i * 7 % n
		apart = append(apart, Range{4 * j, 4*j + 2}, Range{4 * j, 4*j + 1})
		close = append(close, Range{4 * j, 4*j + 3})
	}
	for i := range n {
		want = append(want, Range{4 * i, 4*i + 2})
	}
	if l := Make(apart); !slices.Equal(l, want) {
		t.Errorf("%d ranges, want %d", len(l), len(want))
	}
	if c := Count(apart); c != 3*n {
		t.Errorf("Count = %d", c)
	}
	if l := Make(close); !slices.Equal(l, rr(0, 4*n-1)) {
		t.Errorf("%d ranges, want 1", len(l))
	}
	if l := And(apart, Not(apart)); len(l) != 0 {
		t.Errorf("And = %d", l)
	}
	if l := Or(apart, Not(apart)); !slices.Equal(l, rr(0, top)) {
		t.Errorf("Or has %d ranges", len(l))
	}
}

// P2.2

func TestOr(t *testing.T) {
	for _, x := range []struct{ a, b, want []Range }{
		{nil, nil, nil},
		{rr(3, 2), rr(-4, -1), nil},
		{rr(1, 5), nil, rr(1, 5)},
		{rr(1, 5, 10, 20), rr(4, 12), rr(1, 20)},
		{rr(1, 5), rr(6, 9), rr(1, 9)},
		{rr(1, 5), rr(7, 9), rr(1, 5, 7, 9)},
		{rr(1, 9), rr(3, 4), rr(1, 9)},
		{rr(7, 9, 1, 2), rr(5, 5, 3, 3), rr(1, 3, 5, 5, 7, 9)},
		{rr(-5, 3), rr(8, math.MaxInt), rr(0, 3, 8, top)},
		{rr(math.MinInt, 40), rr(41, math.MaxInt), rr(0, top)},
		{rr(-1, -1), rr(top+1, top+1), nil},
	} {
		both(t, "Or", Or, x.a, x.b, x.want)
	}
}

// both asks a call for two lists, and for the same the other way round.
func both(t *testing.T, name string, call func(a, b []Range) []Range, a, b, want []Range) {
	t.Helper()
	if l := call(a, b); !slices.Equal(l, want) {
		t.Errorf("%s(%d, %d) = %d, want %d", name, a, b, l, want)
	}
	if l := call(b, a); !slices.Equal(l, want) {
		t.Errorf("%s(%d, %d) = %d, want %d", name, b, a, l, want)
	}
}

func TestAnd(t *testing.T) {
	for _, x := range []struct{ a, b, want []Range }{
		{nil, nil, nil},
		{rr(0, top), nil, nil},
		{rr(0, top), rr(3, 2), nil},
		{rr(0, top), rr(1, 5), rr(1, 5)},
		{rr(1, 5, 10, 20), rr(4, 12), rr(4, 5, 10, 12)},
		{rr(1, 5), rr(6, 9), nil},
		{rr(1, 5), rr(5, 9), rr(5, 5)},
		{rr(1, 9), rr(3, 4, 6, 6), rr(3, 4, 6, 6)},
		{rr(1, 3, 5, 7), rr(1, 7), rr(1, 3, 5, 7)},
		{rr(1, 2, 3, 4), rr(2, 3), rr(2, 3)},
		{rr(2, 3), rr(1, 2, 3, 4), rr(2, 3)},
		{rr(10, 20, 1, 5), rr(12, 30, 3, 3), rr(3, 3, 12, 20)},
		{rr(1, 9, 2, 3), rr(8, 12), rr(8, 9)},
		{rr(-5, 3), rr(-9, -1, 2, 2), rr(2, 2)},
		{rr(-5, -1), rr(-5, -1), nil},
		{rr(top+1, top+5), rr(top+1, top+5), nil},
		{rr(math.MinInt, math.MaxInt), rr(math.MinInt, math.MaxInt), rr(0, top)},
		{rr(0, 0), rr(0, 0), rr(0, 0)},
		{rr(top, top), rr(top, math.MaxInt), rr(top, top)},
	} {
		both(t, "And", And, x.a, x.b, x.want)
	}
}

func TestNot(t *testing.T) {
	for _, x := range []struct{ l, want []Range }{
		// The chapter's example.
		{rr(0, 10), rr(11, top)},
		{nil, rr(0, top)},
		{[]Range{}, rr(0, top)},
		{rr(3, 2), rr(0, top)},
		{rr(0, top), nil},
		{rr(math.MinInt, math.MaxInt), nil},
		{rr(0, 0), rr(1, top)},
		{rr(top, top), rr(0, top-1)},
		{rr(1, top-1), rr(0, 0, top, top)},
		{rr(7, 7), rr(0, 6, 8, top)},
		{rr(1, 5, 10, 20), rr(0, 0, 6, 9, 21, top)},
		{rr(10, 20, 1, 5), rr(0, 0, 6, 9, 21, top)},
		{rr(1, 2, 3, 4), rr(0, 0, 5, top)},
		{rr(1, 9, 2, 3), rr(0, 0, 10, top)},
		{rr(-5, -1), rr(0, top)},
		{rr(-5, 3), rr(4, top)},
		{rr(top+1, math.MaxInt), rr(0, top)},
		{rr(9, 1<<40), rr(0, 8)},
		{rr(0, 4, 6, top), rr(5, 5)},
	} {
		if l := Not(x.l); !slices.Equal(l, x.want) {
			t.Errorf("Not(%d) = %d, want %d", x.l, l, x.want)
		}
	}
}

// What isn't in what a list hasn't is the list's least one.
func TestNotTwice(t *testing.T) {
	for _, x := range cases() {
		if l := Not(Not(x.l)); !slices.Equal(l, x.least) {
			t.Errorf("Not(Not(%d)) = %d, want %d", x.l, l, x.least)
		}
	}
}

// The calls of two lists hold for all pairs of small ones.
func TestSmallPairs(t *testing.T) {
	pairs(func(a, b []Range) {
		or := modelLeast(func(x int) bool { return stands(a, x) || stands(b, x) })
		and := modelLeast(func(x int) bool { return stands(a, x) && stands(b, x) })
		if l := Or(a, b); !slices.Equal(l, or) {
			t.Fatalf("Or(%d, %d) = %d, want %d", a, b, l, or)
		}
		if l := And(a, b); !slices.Equal(l, and) {
			t.Fatalf("And(%d, %d) = %d, want %d", a, b, l, and)
		}
	})
}

func TestOf(t *testing.T) {
	for _, x := range []int{0, 1, 7, 0xd800, 0x10ffff, api.Bad, api.Bad + 1, top - 1, top} {
		if l := Of(x); !slices.Equal(l, rr(x, x)) {
			t.Errorf("Of(%d) = %d", x, l)
		}
	}
	for _, x := range []int{math.MinInt, -1<<32 + 7, -top, -1, top + 1, 1<<32 + 7, math.MaxInt} {
		if l := Of(x); len(l) != 0 {
			t.Errorf("Of(%d) = %d", x, l)
		}
	}
}

// P1 and the rule of memory: nothing that is handed in is changed, and nothing that is told is shared.

// roomy is a list with room behind it, and all of its memory.
func roomy(l []Range) (list, all []Range) {
	all = append(slices.Clone(l), rr(-7, -7, -8, -8, -9, -9, -9, -9)...)
	return all[:len(l)], all
}

// calls are all calls that tell a list, made to take two.
func calls() map[string]func(a, b []Range) []Range {
	return map[string]func(a, b []Range) []Range{
		"Make": func(a, _ []Range) []Range { return Make(a) },
		"Not":  func(a, _ []Range) []Range { return Not(a) },
		"Or":   Or,
		"And":  And,
		"Of":   func(_, _ []Range) []Range { return Of(5) },
	}
}

func TestArgumentsStay(t *testing.T) {
	lists := [][]Range{nil, rr(5, 7, 1, 2, 3, 4), rr(1, 2, 3, 4), rr(1, 9, 2, 3), rr(-5, 4, 9, 1<<40), rr(4, 3, 1, 1), rr(0, top)}
	for _, x := range lists {
		for _, y := range lists {
			a, allA := roomy(x)
			b, allB := roomy(y)
			wasA, wasB := slices.Clone(allA), slices.Clone(allB)
			for _, call := range calls() {
				call(a, b)
			}
			Right(a)
			Has(a, 5)
			Count(a)
			if !slices.Equal(allA, wasA) || !slices.Equal(allB, wasB) {
				t.Errorf("%d and %d became %d and %d", wasA, wasB, allA, allB)
			}
		}
	}
}

// spoil writes over all of a list's memory, its spare room too.
func spoil(l []Range) {
	l = l[:cap(l)]
	for i := range l {
		l[i] = Range{-77, -77}
	}
}

func TestAnswersAreNew(t *testing.T) {
	lists := [][]Range{nil, rr(1, 2), rr(1, 2, 4, 5), rr(1, 2, 3, 4), rr(0, top)}
	for _, x := range lists {
		for _, y := range lists {
			for name, call := range calls() {
				a, allA := roomy(x)
				b, allB := roomy(y)
				wasA, wasB := slices.Clone(allA), slices.Clone(allB)
				first, second := call(a, b), call(a, b)
				want := slices.Clone(second)
				spoil(first)
				if !slices.Equal(second, want) || !slices.Equal(call(a, b), want) {
					t.Errorf("%s(%d, %d): answers share memory", name, x, y)
				}
				if !slices.Equal(allA, wasA) || !slices.Equal(allB, wasB) {
					t.Errorf("%s(%d, %d): an answer shares an argument's memory", name, x, y)
				}
			}
		}
	}
}

// One list handed in twice is as two that are the same.
func TestSameListTwice(t *testing.T) {
	for _, x := range cases() {
		if l := Or(x.l, x.l); !slices.Equal(l, x.least) {
			t.Errorf("Or(%d) with itself = %d", x.l, l)
		}
		if l := And(x.l, x.l); !slices.Equal(l, x.least) {
			t.Errorf("And(%d) with itself = %d", x.l, l)
		}
	}
}
