package undo_test

import (
	"math"
	"math/rand"
	"slices"
	"testing"

	"clew/api"
	"clew/undo"
)

// of is a book that there may be.
func of(t *testing.T, n, with int) *undo.Book {
	t.Helper()
	b, e := undo.New(n, with)
	if e != api.OK || b == nil {
		t.Fatalf("New(%d, %d): error %d", n, with, e)
	}
	return b
}

// so is a number again and again.
func so(x, many int) []int {
	l := []int{}
	for range many {
		l = append(l, x)
	}
	return l
}

// beyond are numbers that aren't from 0 up to n, some of which would be if they were cut to fewer bits, or had no sign.
func beyond(n int) []int {
	return []int{math.MinInt, math.MinInt + 1, -1 << 32, -1<<32 + 1, -1 << 16, -n - 1, -2, -1, n + 1, n + 2, 1<<17 + n, 1 << 31, 1 << 32, 1<<32 + 1, math.MaxInt - 1, math.MaxInt}
}

// odd are numbers of any kind: from 0 up to n, and others.
func odd(n int) []int {
	l := beyond(n)
	for x := -3; x <= n+3; x++ {
		l = append(l, x)
	}
	return l
}

// values are numbers that a book may have: any.
func values() []int {
	return []int{math.MinInt, math.MinInt + 1, -1 << 32, -65537, -2, -1, 0, 1, 2, 255, 256, 65535, 65536, 1 << 31, 1 << 32, math.MaxInt - 1, math.MaxInt}
}

// model is a book that keeps all the numbers of each mark, the latest last.
type model [][]int

func newModel(n, with int) model { return model{so(with, n)} }

func (m model) now() []int { return m[len(m)-1] }

func (m *model) set(i, x int) bool {
	if i < 0 || i >= len(m.now()) {
		return false
	}
	if m.now()[i] != x {
		next := slices.Clone(m.now())
		next[i] = x
		*m = append(*m, next)
	}
	return true
}

func (m *model) undo(mark int) bool {
	if mark < 0 || mark >= len(*m) {
		return false
	}
	*m = (*m)[:mark+1]
	return true
}

// reads tells whether a book tells these numbers, and this mark, by each of its calls.
func reads(b *undo.Book, numbers []int, mark int) bool {
	if b.Len() != len(numbers) || b.Mark() != mark || !slices.Equal(b.Part(0, len(numbers)), numbers) {
		return false
	}
	for i, want := range numbers {
		if x, ok := b.Get(i); x != want || !ok {
			return false
		}
	}
	return true
}

// holds holds a book to have these numbers, and this mark.
func holds(t *testing.T, b *undo.Book, mark int, numbers ...int) {
	t.Helper()
	if !reads(b, numbers, mark) {
		t.Errorf("%v, the mark %d; want %v, %d", b.Part(0, b.Len()), b.Mark(), numbers, mark)
	}
}

// P15.1: new books.

func TestNew(t *testing.T) {
	for _, n := range []int{0, 1, 2, 3, 99, 256, 65535, 65536} {
		for _, with := range values() {
			b := of(t, n, with)
			if !reads(b, so(with, n), 0) {
				t.Errorf("New(%d, %d): %d numbers, the mark %d", n, with, b.Len(), b.Mark())
			}
			// Nothing has changed, so there is nothing ahead of it to go back to.
			if b.Undo(1) || b.Undo(-1) || !b.Undo(0) || !reads(b, so(with, n), 0) {
				t.Errorf("New(%d, %d): Undo", n, with)
			}
		}
	}
}

func TestNewRange(t *testing.T) {
	for _, n := range append(beyond(65536), 65537, 65538, 1<<17, 1<<20) {
		for _, with := range []int{-1, 0, 7, math.MaxInt} {
			if b, e := undo.New(n, with); e != api.ErrRange || b != nil {
				t.Errorf("New(%d, %d): error %d", n, with, e)
			}
		}
	}
}

// The number that a book begins with has no part in how many there may be.
func TestNewWith(t *testing.T) {
	for _, with := range append(values(), beyond(65536)...) {
		b := of(t, 2, with)
		holds(t, b, 0, with, with)
	}
}

// P15.1: a number at a place.

func TestGet(t *testing.T) {
	for n := range 5 {
		b := of(t, n, 8)
		for i := range n {
			b.Set(i, 10+i)
		}
		for _, i := range odd(n) {
			x, ok := b.Get(i)
			if i >= 0 && i < n {
				if x != 10+i || !ok {
					t.Errorf("of %d: Get(%d) = %d, %t", n, i, x, ok)
				}
			} else if x != 0 || ok {
				t.Errorf("of %d: Get(%d) = %d, %t", n, i, x, ok)
			}
		}
	}
}

// A nought that is there is told with true, one that isn't with false.
func TestGetNought(t *testing.T) {
	b := of(t, 1, 0)
	if x, ok := b.Get(0); x != 0 || !ok {
		t.Error(x, ok)
	}
	if x, ok := b.Get(1); x != 0 || ok {
		t.Error(x, ok)
	}
}

func TestGetLast(t *testing.T) {
	b := of(t, 65536, 3)
	b.Set(65535, 4)
	for i, want := range map[int]int{0: 3, 65534: 3, 65535: 4} {
		if x, ok := b.Get(i); x != want || !ok {
			t.Errorf("Get(%d) = %d, %t", i, x, ok)
		}
	}
	for _, i := range []int{-1, 65536, 65537, 131071} {
		if x, ok := b.Get(i); x != 0 || ok {
			t.Errorf("Get(%d) = %d, %t", i, x, ok)
		}
	}
}

// P15.1: parts.

func TestPart(t *testing.T) {
	b := of(t, 4, 0)
	for i := range 4 {
		b.Set(i, 10+i)
	}
	for _, x := range []struct {
		from, to int
		want     []int
	}{
		{0, 4, []int{10, 11, 12, 13}},
		{1, 3, []int{11, 12}},
		{0, 1, []int{10}},
		{3, 4, []int{13}},
		// As far as they are there.
		{-1, 2, []int{10, 11}},
		{2, 9, []int{12, 13}},
		{math.MinInt, math.MaxInt, []int{10, 11, 12, 13}},
		// None.
		{2, 2, nil}, {3, 2, nil}, {4, 4, nil}, {4, 9, nil}, {-3, 0, nil}, {-3, -1, nil}, {9, 12, nil}, {math.MaxInt, math.MinInt, nil}, {math.MaxInt, math.MaxInt, nil}, {math.MinInt, math.MinInt, nil},
	} {
		if l := b.Part(x.from, x.to); !slices.Equal(l, x.want) {
			t.Errorf("Part(%d, %d) = %v", x.from, x.to, l)
		}
	}
	holds(t, b, 4, 10, 11, 12, 13)
}

// From any number up to any: each number that is from there on, and ahead of there.
func TestPartAll(t *testing.T) {
	for n := range 6 {
		b := of(t, n, 0)
		for i := range n {
			b.Set(i, 10+i)
		}
		for _, from := range odd(n) {
			for _, to := range odd(n) {
				var want []int
				for i := range n {
					if from <= i && i < to {
						want = append(want, 10+i)
					}
				}
				if l := b.Part(from, to); !slices.Equal(l, want) {
					t.Errorf("of %d: Part(%d, %d) = %v", n, from, to, l)
				}
			}
		}
	}
}

func TestPartLong(t *testing.T) {
	b := of(t, 65536, 0)
	for i := range 65536 {
		b.Set(i, -i)
	}
	for _, x := range [][2]int{{0, 65536}, {1, 65535}, {65535, 65536}, {65535, 1 << 20}, {300, 40000}} {
		l := b.Part(x[0], x[1])
		if len(l) != min(x[1], 65536)-x[0] {
			t.Errorf("Part(%d, %d): %d numbers", x[0], x[1], len(l))
		}
		for i, y := range l {
			if y != -x[0]-i {
				t.Fatalf("Part(%d, %d) has %d at %d", x[0], x[1], y, i)
			}
		}
	}
}

// spoil writes over all of a list, its spare room too.
func spoil(l []int) {
	l = l[:cap(l)]
	for i := range l {
		l[i] = -99
	}
}

// What becomes of a part has no part in the book, nor in another part, and the other way round.
func TestPartShares(t *testing.T) {
	for from := range 4 {
		for to := from; to <= 4; to++ {
			b := of(t, 4, 6)
			b.Set(2, 7)
			first, second := b.Part(from, to), b.Part(from, to)
			was := slices.Clone(second)
			spoil(first)
			holds(t, b, 1, 6, 6, 7, 6)
			if !slices.Equal(second, was) {
				t.Errorf("Part(%d, %d): two are shared", from, to)
			}
			for i := range 4 {
				b.Set(i, 20+i)
			}
			if !slices.Equal(second, was) {
				t.Errorf("Part(%d, %d): changed with the book", from, to)
			}
			b.Undo(0)
			if !slices.Equal(second, was) {
				t.Errorf("Part(%d, %d): undone with the book", from, to)
			}
			holds(t, b, 0, 6, 6, 6, 6)
		}
	}
}

// P15.2: changes.

// The chapter's example.
func TestExample(t *testing.T) {
	b := of(t, 2, 0)
	if !b.Set(1, 5) || !b.Set(1, 5) || !b.Set(0, 2) {
		t.Error("Set")
	}
	holds(t, b, 2, 2, 5)
	if !b.Undo(1) {
		t.Error("Undo")
	}
	holds(t, b, 1, 0, 5)
}

func TestSet(t *testing.T) {
	b := of(t, 3, 1)
	for _, x := range []struct {
		i, x, mark int
		want       []int
	}{
		// The number that is there already is no change.
		{0, 1, 0, []int{1, 1, 1}},
		{0, 0, 1, []int{0, 1, 1}},
		{0, 0, 1, []int{0, 1, 1}},
		{2, -1, 2, []int{0, 1, -1}},
		{2, 1, 3, []int{0, 1, 1}},
		{1, 1, 3, []int{0, 1, 1}},
		// One that was there once is a change all the same.
		{0, 1, 4, []int{1, 1, 1}},
		{0, 0, 5, []int{0, 1, 1}},
		{1, math.MinInt, 6, []int{0, math.MinInt, 1}},
		{1, math.MaxInt, 7, []int{0, math.MaxInt, 1}},
	} {
		if !b.Set(x.i, x.x) {
			t.Errorf("Set(%d, %d) = false", x.i, x.x)
		}
		holds(t, b, x.mark, x.want...)
	}
}

// What is set where there is no number changes nothing, and is no change.
func TestSetNone(t *testing.T) {
	for n := range 4 {
		b := of(t, n, 5)
		if n > 0 {
			b.Set(n-1, 6)
		}
		numbers, mark := b.Part(0, n), b.Mark()
		for _, i := range append(beyond(n), n) {
			for _, x := range []int{0, 5, 6, -1, math.MaxInt} {
				if b.Set(i, x) || !reads(b, numbers, mark) {
					t.Errorf("of %d: Set(%d, %d)", n, i, x)
				}
			}
		}
	}
	b := of(t, 65536, 0)
	if b.Set(65536, 1) || b.Set(-1, 1) || !b.Set(65535, 1) || b.Mark() != 1 {
		t.Error("Set at the edges of the longest")
	}
}

// Each number in the place of each other one, and back.
func TestSetValues(t *testing.T) {
	for _, x := range values() {
		for _, y := range values() {
			b := of(t, 2, x)
			if !b.Set(1, y) {
				t.Errorf("Set(1, %d) = false", y)
			}
			if x == y {
				holds(t, b, 0, x, x)
				continue
			}
			holds(t, b, 1, x, y)
			if !b.Undo(0) {
				t.Error("Undo(0) = false")
			}
			holds(t, b, 0, x, x)
		}
	}
}

// P15.2: as it was.

// changed is a book with six changes, and its numbers at each mark.
func changed(t *testing.T) (*undo.Book, [][]int) {
	b := of(t, 3, 0)
	for _, x := range [][2]int{{0, 1}, {0, 1}, {2, 7}, {0, 2}, {1, 9}, {1, 9}, {0, 0}, {2, 8}} {
		b.Set(x[0], x[1])
	}
	return b, [][]int{{0, 0, 0}, {1, 0, 0}, {1, 0, 7}, {2, 0, 7}, {2, 9, 7}, {0, 9, 7}, {0, 9, 8}}
}

// To each mark at once.
func TestUndo(t *testing.T) {
	_, at := changed(t)
	for mark, numbers := range at {
		b, _ := changed(t)
		holds(t, b, 6, at[6]...)
		if !b.Undo(mark) {
			t.Errorf("Undo(%d) = false", mark)
		}
		holds(t, b, mark, numbers...)
		// Again to the same mark: nothing is left to undo.
		if !b.Undo(mark) {
			t.Errorf("Undo(%d) again = false", mark)
		}
		holds(t, b, mark, numbers...)
		// What was undone doesn't come again.
		if b.Undo(mark + 1) {
			t.Errorf("Undo(%d) behind Undo(%d)", mark+1, mark)
		}
		holds(t, b, mark, numbers...)
	}
}

// By way of each two marks.
func TestUndoTwice(t *testing.T) {
	for first := range 7 {
		for second := range first + 1 {
			b, at := changed(t)
			if !b.Undo(first) || !b.Undo(second) {
				t.Errorf("Undo(%d), Undo(%d)", first, second)
			}
			holds(t, b, second, at[second]...)
		}
	}
}

// A mark that there isn't yet, any more, or never changes nothing.
func TestUndoNone(t *testing.T) {
	for mark := range 7 {
		b, at := changed(t)
		b.Undo(mark)
		for _, to := range append(beyond(mark), 6+mark+1) {
			if b.Undo(to) || !reads(b, at[mark], mark) {
				t.Errorf("at the mark %d: Undo(%d)", mark, to)
			}
		}
	}
}

// What is set behind an Undo is on the trail where what was undone was.
func TestUndoAndSet(t *testing.T) {
	b, _ := changed(t)
	b.Undo(2)
	b.Set(1, 3)
	holds(t, b, 3, 1, 3, 7)
	b.Set(0, 4)
	holds(t, b, 4, 4, 3, 7)
	b.Undo(3)
	holds(t, b, 3, 1, 3, 7)
	b.Set(0, 1)
	holds(t, b, 3, 1, 3, 7)
	b.Set(2, 0)
	holds(t, b, 4, 1, 3, 0)
	b.Undo(2)
	holds(t, b, 2, 1, 0, 7)
	b.Undo(0)
	holds(t, b, 0, 0, 0, 0)
	b.Set(0, 1)
	holds(t, b, 1, 1, 0, 0)
}

// Many changes at one place: the earliest behind the mark tells what was there.
func TestUndoOnePlace(t *testing.T) {
	for mark := range 50 {
		b := of(t, 2, 100)
		for x := range 50 {
			b.Set(1, x)
		}
		b.Undo(mark)
		want := 100
		if mark > 0 {
			want = mark - 1
		}
		holds(t, b, mark, 100, want)
	}
}

// A book without numbers has no changes.
func TestEmpty(t *testing.T) {
	b := of(t, 0, 5)
	if b.Set(0, 5) || b.Set(0, 6) || b.Set(-1, 5) || b.Undo(1) || b.Undo(-1) || !b.Undo(0) {
		t.Error("Set, Undo")
	}
	if x, ok := b.Get(0); x != 0 || ok || len(b.Part(-9, 9)) != 0 {
		t.Error(x, ok, b.Part(-9, 9))
	}
	holds(t, b, 0)
}

// A book has as many changes as are made, far more than it has numbers.
func TestLong(t *testing.T) {
	const many = 1 << 20
	b := of(t, 3, -1)
	for x := range many {
		if !b.Set(x%3, x) {
			t.Fatal(x)
		}
	}
	holds(t, b, many, many-1, many-3, many-2)
	for _, mark := range []int{many, many - 1, 1<<16 + 1, 65536, 65535, 257, 256, 4, 3} {
		if !b.Undo(mark) {
			t.Fatal(mark)
		}
		numbers := []int{0, 0, 0}
		for x := mark - 3; x < mark; x++ {
			numbers[x%3] = x
		}
		holds(t, b, mark, numbers...)
	}
	b.Undo(1)
	holds(t, b, 1, 0, -1, -1)
	b.Undo(0)
	holds(t, b, 0, -1, -1, -1)
}

// Each number of the longest book, undone half and whole.
func TestWide(t *testing.T) {
	const n = 65536
	b := of(t, n, 5)
	want := so(5, n)
	for i := range n {
		b.Set(n-1-i, i+6)
	}
	for i := range n / 2 {
		want[n-1-i] = i + 6
	}
	if b.Mark() != n || !b.Undo(n/2) || !reads(b, want, n/2) {
		t.Error("half")
	}
	if !b.Undo(0) || !reads(b, so(5, n), 0) {
		t.Error("whole")
	}
}

// P15.1 and P15.2: all that is asked of a book, in any order.

// scripts hands all lists of so many numbers from 0 up to kinds to do.
func scripts(length, kinds int, do func([]int)) {
	l := make([]int, length)
	for {
		do(l)
		i := 0
		for i < length && l[i] == kinds-1 {
			l[i] = 0
			i++
		}
		if i == length {
			return
		}
		l[i]++
	}
}

// All short lists of changes and marks, over a book of two numbers.
func TestShort(t *testing.T) {
	const length = 6
	scripts(length, 8, func(l []int) {
		b := of(t, 2, 0)
		m := newModel(2, 0)
		for at, x := range l {
			var told, want bool
			if x < 4 {
				told, want = b.Set(x/2, x%2), m.set(x/2, x%2)
			} else {
				told, want = b.Undo(x-4), m.undo(x-4)
			}
			if told != want || !reads(b, m.now(), len(m)-1) {
				t.Fatalf("%v at %d: %t, %v, the mark %d; want %t, %v, %d", l, at, told, b.Part(0, 2), b.Mark(), want, m.now(), len(m)-1)
			}
		}
	})
}

// Long ones by chance, some of what is asked being wrong.
func TestGrown(t *testing.T) {
	r := rand.New(rand.NewSource(15))
	for range 300 {
		n, with := r.Intn(9), r.Intn(3)-1
		b, m := of(t, n, with), newModel(n, with)
		for range 300 {
			var told, want bool
			if r.Intn(8) > 0 {
				i, x := r.Intn(n+2)-1, r.Intn(4)-1
				told, want = b.Set(i, x), m.set(i, x)
			} else {
				mark := max(len(m)-r.Intn(12), r.Intn(len(m)+3)-2)
				told, want = b.Undo(mark), m.undo(mark)
			}
			if told != want || !reads(b, m.now(), len(m)-1) {
				t.Fatalf("%t, %v, the mark %d; want %t, %v, %d", told, b.Part(0, n), b.Mark(), want, m.now(), len(m)-1)
			}
		}
		for mark := len(m) - 1; mark >= 0; mark-- {
			if !b.Undo(mark) || !reads(b, m[mark], mark) {
				t.Fatalf("at the mark %d: %v; want %v", mark, b.Part(0, n), m[mark])
			}
		}
	}
}

// One book has no part in another one, of the same numbers.
func TestTwo(t *testing.T) {
	a, b := of(t, 3, 4), of(t, 3, 4)
	a.Set(0, 1)
	a.Set(2, 2)
	holds(t, b, 0, 4, 4, 4)
	b.Set(1, 7)
	holds(t, a, 2, 1, 4, 2)
	holds(t, b, 1, 4, 7, 4)
	a.Undo(0)
	holds(t, a, 0, 4, 4, 4)
	holds(t, b, 1, 4, 7, 4)
	if a.Undo(1) {
		t.Error("Undo to another book's mark")
	}
	holds(t, of(t, 3, 4), 0, 4, 4, 4)
}

// What just tells changes nothing, and tells the same again.
func TestNothingChanges(t *testing.T) {
	b, at := changed(t)
	for range 3 {
		for _, i := range odd(3) {
			b.Get(i)
			b.Part(i, 2)
			b.Part(1, i)
		}
		holds(t, b, 6, at[6]...)
	}
	b.Undo(3)
	holds(t, b, 3, at[3]...)
}

// P1: any numbers at all: each call ends, and none panics.
func TestAny(t *testing.T) {
	all := append(odd(2), values()...)
	for _, x := range all {
		if b, e := undo.New(x, x); (e == api.OK) != (x >= 0 && x <= 65536) || (b == nil) != (e != api.OK) {
			t.Errorf("New(%d, %d): error %d", x, x, e)
		}
		for _, y := range all {
			b, m := of(t, 2, 1), newModel(2, 1)
			if b.Set(x, y) != m.set(x, y) || b.Undo(x) != m.undo(x) || b.Set(y, x) != m.set(y, x) || b.Undo(y) != m.undo(y) || !reads(b, m.now(), len(m)-1) {
				t.Errorf("%d, %d: %v, the mark %d", x, y, b.Part(0, 2), b.Mark())
			}
			if l := b.Part(x, y); len(l) > 2 {
				t.Errorf("Part(%d, %d) = %v", x, y, l)
			}
		}
	}
}
