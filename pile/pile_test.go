package pile_test

import (
	"math"
	"math/rand"
	"slices"
	"testing"

	"clew/api"
	"clew/pile"
)

// of is a pile that there may be.
func of(t *testing.T, limit int) *pile.Pile {
	t.Helper()
	p, e := pile.New(limit)
	if e != api.OK || p == nil {
		t.Fatalf("New(%d): error %d", limit, e)
	}
	return p
}

// entry is one that no other number makes, and no two fields of which are the same.
func entry(x int, bar bool) pile.Entry {
	return pile.Entry{Bar: bar, Pc: 10*x + 1, Pos: 10*x + 2, Mark: 10*x + 3, Origin: 10*x + 4, Val: 10*x + 5}
}

// plain is one that isn't a barrier, barrier one that is.
func plain(x int) pile.Entry   { return entry(x, false) }
func barrier(x int) pile.Entry { return entry(x, true) }

// beyond are numbers that aren't from 0 to n, some of which would be if they were cut to fewer bits, or had no sign.
func beyond(n int) []int {
	return []int{math.MinInt, math.MinInt + 1, -1 << 32, -1<<32 + 1, -1 << 16, -n - 1, -2, -1, n + 1, n + 2, 1<<17 + n, 1 << 31, 1 << 32, 1<<32 + 1, math.MaxInt - 1, math.MaxInt}
}

// values are numbers that an entry may have: any.
func values() []int {
	return []int{math.MinInt, math.MinInt + 1, -1 << 32, -65537, -2, -1, 0, 1, 2, 255, 256, 65535, 65536, 1 << 31, 1 << 32, math.MaxInt - 1, math.MaxInt}
}

// model is a pile that is gone through entry by entry, the lowest first.
type model struct {
	entries     []pile.Entry
	limit, most int
}

// place is that of the topmost entry that is sought, or -1.
func (m *model) place(bar bool) int {
	for i := len(m.entries) - 1; i >= 0; i-- {
		if !bar || m.entries[i].Bar {
			return i
		}
	}
	return -1
}

func (m *model) push(e pile.Entry) bool {
	if len(m.entries) == m.limit {
		return false
	}
	m.entries = append(slices.Clone(m.entries), e)
	m.most = max(m.most, len(m.entries))
	return true
}

// look is the topmost entry that is sought, or barrier; take takes it, and what is above it, away.
func (m *model) look(bar bool) (pile.Entry, bool) {
	i := m.place(bar)
	if i < 0 {
		return pile.Entry{}, false
	}
	return m.entries[i], true
}

func (m *model) take(bar bool) (pile.Entry, bool) {
	e, ok := m.look(bar)
	if ok {
		m.entries = m.entries[:m.place(bar)]
	}
	return e, ok
}

// reads tells whether a pile tells what a model does, by each of its calls that take nothing away.
func reads(p *pile.Pile, m *model) bool {
	top, isTop := m.look(false)
	bar, isBar := m.look(true)
	toldTop, okTop := p.Top()
	toldBar, okBar := p.Bar()
	return p.Len() == len(m.entries) && p.Most() == m.most && toldTop == top && okTop == isTop && toldBar == bar && okBar == isBar
}

// holds holds a pile to have this Most, and these entries, the lowest first; they are taken away.
func holds(t *testing.T, p *pile.Pile, most int, entries ...pile.Entry) {
	t.Helper()
	m := &model{entries: entries, most: most}
	for range len(entries) + 1 {
		if !reads(p, m) {
			t.Errorf("Len %d, Most %d; want %d, %d", p.Len(), p.Most(), len(m.entries), most)
		}
		e, ok := p.Pop()
		if want, is := m.take(false); e != want || ok != is {
			t.Errorf("Pop = %v, %t; want %v, %t", e, ok, want, is)
		}
	}
}

// none holds a pile to have no entry.
func none(t *testing.T, p *pile.Pile, most int) {
	t.Helper()
	for _, ask := range []func() (pile.Entry, bool){p.Top, p.Pop, p.Bar, p.Cut} {
		if e, ok := ask(); e != (pile.Entry{}) || ok {
			t.Errorf("%v, %t, of none", e, ok)
		}
		if p.Len() != 0 || p.Most() != most {
			t.Errorf("Len %d, Most %d; want 0, %d", p.Len(), p.Most(), most)
		}
	}
}

// P16.1: new piles.

func TestNew(t *testing.T) {
	for _, limit := range []int{0, 1, 2, 3, 99, 255, 256, 65534, 65535, 65536} {
		p := of(t, limit)
		none(t, p, 0)
		p.Clear()
		none(t, p, 0)
	}
}

func TestNewRange(t *testing.T) {
	for _, limit := range append(beyond(65536), 65537, 65538, 1<<17, 1<<20) {
		if p, e := pile.New(limit); e != api.ErrRange || p != nil {
			t.Errorf("New(%d): error %d", limit, e)
		}
	}
}

// P16.1: up to the limit.

func TestPush(t *testing.T) {
	for limit := range 6 {
		for bars := range 1 << limit {
			p := of(t, limit)
			var want []pile.Entry
			for i := range limit {
				e := entry(i, bars>>i&1 == 1)
				want = append(want, e)
				if !p.Push(e) || p.Len() != i+1 || p.Most() != i+1 {
					t.Errorf("of %d: Push of %d", limit, i)
				}
				if told, ok := p.Top(); told != e || !ok {
					t.Errorf("of %d: Top = %v, %t behind Push of %v", limit, told, ok, e)
				}
			}
			// What is refused, barrier or not, changes nothing.
			for range 3 {
				if p.Push(plain(7)) || p.Push(barrier(8)) || p.Push(pile.Entry{}) {
					t.Errorf("of %d: Push", limit)
				}
			}
			holds(t, p, limit, want...)
		}
	}
}

// Where one was taken away there is room for one, and for no more.
func TestPushAgain(t *testing.T) {
	for _, bar := range []bool{false, true} {
		p := of(t, 3)
		p.Push(plain(1))
		p.Push(plain(2))
		p.Push(entry(3, bar))
		if p.Push(plain(4)) {
			t.Error("Push of a fourth")
		}
		p.Pop()
		if !p.Push(entry(5, !bar)) || p.Push(plain(6)) {
			t.Error("Push behind Pop")
		}
		holds(t, p, 3, plain(1), plain(2), entry(5, !bar))
	}
}

// Where a barrier, and what is above it, was cut, there is room for as many.
func TestPushBehindCut(t *testing.T) {
	p := of(t, 4)
	for i := range 4 {
		p.Push(entry(i, i == 1))
	}
	p.Cut()
	for i := range 5 {
		if p.Push(plain(10+i)) != (i < 3) {
			t.Errorf("Push of %d behind Cut", i)
		}
	}
	holds(t, p, 4, plain(0), plain(10), plain(11), plain(12))
}

func TestLongest(t *testing.T) {
	for _, limit := range []int{65535, 65536} {
		p := of(t, limit)
		for i := range limit {
			if !p.Push(entry(i, i%1000 == 7)) {
				t.Fatalf("of %d: Push of %d", limit, i)
			}
		}
		if p.Push(plain(0)) || p.Push(barrier(0)) || p.Len() != limit || p.Most() != limit {
			t.Errorf("of %d: Len %d, Most %d", limit, p.Len(), p.Most())
		}
		for i := limit - 1; i >= 0; i-- {
			if e, ok := p.Pop(); e != entry(i, i%1000 == 7) || !ok {
				t.Fatalf("of %d: Pop = %v, %t; want the entry %d", limit, e, ok, i)
			}
		}
		none(t, p, limit)
	}
}

// P16.1: entries.

// What an entry has, but for its Bar, is the caller's: any numbers come as they went.
func TestEntry(t *testing.T) {
	for _, x := range values() {
		for _, y := range values() {
			for _, e := range []pile.Entry{{Pc: x, Val: y}, {Pos: x, Mark: y}, {Origin: x, Pc: y}, {Mark: x, Val: y}, {Pc: x, Pos: x, Mark: x, Origin: y, Val: y}} {
				for _, bar := range []bool{false, true} {
					e.Bar = bar
					p := of(t, 2)
					p.Push(barrier(1))
					p.Push(e)
					holds(t, p, 2, barrier(1), e)
				}
			}
		}
	}
}

// An entry without anything is there all the same: it is told with true.
func TestEntryBlank(t *testing.T) {
	p := of(t, 2)
	if !p.Push(pile.Entry{}) {
		t.Error("Push")
	}
	if e, ok := p.Top(); e != (pile.Entry{}) || !ok || p.Len() != 1 {
		t.Error(e, ok)
	}
	if e, ok := p.Bar(); e != (pile.Entry{}) || ok {
		t.Error(e, ok)
	}
	p.Push(pile.Entry{Bar: true})
	if e, ok := p.Bar(); e != (pile.Entry{Bar: true}) || !ok {
		t.Error(e, ok)
	}
	holds(t, p, 2, pile.Entry{}, pile.Entry{Bar: true})
}

// The same entry may wait as often as there is room.
func TestEntryTwice(t *testing.T) {
	for _, e := range []pile.Entry{plain(1), barrier(1)} {
		p := of(t, 5)
		for range 3 {
			p.Push(e)
		}
		holds(t, p, 3, e, e, e)
	}
}

// What becomes of an entry that was handed in, or told, has no part in the pile.
func TestEntryShares(t *testing.T) {
	p := of(t, 2)
	e := barrier(1)
	p.Push(e)
	e = pile.Entry{}
	top, _ := p.Top()
	top.Pc, top.Bar = -1, false
	bar, _ := p.Bar()
	bar.Val, bar.Bar = -1, false
	holds(t, p, 1, barrier(1))
	if e != (pile.Entry{}) || top.Pc != -1 || bar.Val != -1 {
		t.Error(e, top, bar)
	}
}

// P16.1: the top.

// To look takes nothing away, how often it may be done.
func TestTop(t *testing.T) {
	p := of(t, 9)
	for i := range 4 {
		p.Push(entry(i, i == 2))
		for range 3 {
			if e, ok := p.Top(); e != entry(i, i == 2) || !ok || p.Len() != i+1 {
				t.Errorf("Top = %v, %t; want the entry %d", e, ok, i)
			}
		}
	}
	holds(t, p, 4, plain(0), plain(1), barrier(2), plain(3))
}

// The latest first, barrier or not, as often as there is one.
func TestPop(t *testing.T) {
	for n := range 6 {
		for bars := range 1 << n {
			p := of(t, 8)
			for i := range n {
				p.Push(entry(i, bars>>i&1 == 1))
			}
			for i := n - 1; i >= 0; i-- {
				if e, ok := p.Pop(); e != entry(i, bars>>i&1 == 1) || !ok || p.Len() != i {
					t.Errorf("Pop = %v, %t; want the entry %d", e, ok, i)
				}
			}
			none(t, p, n)
		}
	}
}

// P16.1: how many at most.

func TestMost(t *testing.T) {
	p := of(t, 4)
	is := func(length, most int) {
		t.Helper()
		if p.Len() != length || p.Most() != most {
			t.Errorf("Len %d, Most %d; want %d, %d", p.Len(), p.Most(), length, most)
		}
	}
	is(0, 0)
	p.Push(plain(1))
	p.Push(barrier(2))
	is(2, 2)
	p.Pop()
	is(1, 2)
	p.Push(plain(3))
	is(2, 2)
	p.Push(plain(4))
	is(3, 3)
	p.Clear()
	is(0, 3)
	p.Push(barrier(5))
	p.Push(plain(6))
	is(2, 3)
	p.Cut()
	is(0, 3)
	for range 9 {
		p.Push(barrier(7))
	}
	// What was refused never was there.
	is(4, 4)
	p.Cut()
	p.Cut()
	is(2, 4)
	p.Clear()
	is(0, 4)
}

// P16.1: all away.

func TestClear(t *testing.T) {
	for n := range 6 {
		for bars := range 1 << n {
			p := of(t, 5)
			for i := range n {
				p.Push(entry(i, bars>>i&1 == 1))
			}
			p.Clear()
			none(t, p, n)
			p.Clear()
			none(t, p, n)
			// No barrier of those that were is left below what comes then.
			p.Push(plain(7))
			if e, ok := p.Bar(); e != (pile.Entry{}) || ok {
				t.Errorf("Bar = %v, %t behind Clear", e, ok)
			}
			holds(t, p, max(n, 1), plain(7))
		}
	}
}

// The limit is what it was.
func TestClearLimit(t *testing.T) {
	p := of(t, 3)
	for range 4 {
		for i := range 5 {
			if p.Push(barrier(i)) != (i < 3) {
				t.Errorf("Push of %d", i)
			}
		}
		p.Clear()
	}
	none(t, p, 3)
}

// P16.2: barriers.

// The chapter's example.
func TestExample(t *testing.T) {
	p := of(t, 9)
	p.Push(plain(1))
	p.Push(barrier(2))
	p.Push(plain(3))
	if e, ok := p.Cut(); e != barrier(2) || !ok {
		t.Error(e, ok)
	}
	holds(t, p, 3, plain(1))
}

// All ways in which some of a few entries are barriers.
func TestBarAndCut(t *testing.T) {
	for n := range 7 {
		for bars := range 1 << n {
			p, m := of(t, 8), &model{limit: 8}
			for i := range n {
				p.Push(entry(i, bars>>i&1 == 1))
				m.push(entry(i, bars>>i&1 == 1))
				if !reads(p, m) {
					t.Errorf("barriers %b: not as it should be at %d", bars, i)
				}
			}
			// Once more than there are barriers: then nothing is taken away.
			for i := range n + 1 {
				e, ok := p.Cut()
				want, is := m.take(true)
				if e != want || ok != is || !reads(p, m) {
					t.Errorf("barriers %b: Cut %d = %v, %t; want %v, %t", bars, i, e, ok, want, is)
				}
			}
			holds(t, p, n, m.entries...)
		}
	}
}

// To ask for a barrier takes nothing away, how often it may be done.
func TestBar(t *testing.T) {
	p := of(t, 4)
	for i := range 4 {
		p.Push(entry(i, i == 1))
	}
	for range 3 {
		if e, ok := p.Bar(); e != barrier(1) || !ok || p.Len() != 4 {
			t.Error(e, ok, p.Len())
		}
	}
	holds(t, p, 4, plain(0), barrier(1), plain(2), plain(3))
}

// Where no barrier is, nothing is cut.
func TestCutNone(t *testing.T) {
	p := of(t, 4)
	for i := range 4 {
		p.Push(plain(i))
	}
	for range 3 {
		if e, ok := p.Cut(); e != (pile.Entry{}) || ok {
			t.Error(e, ok)
		}
		if e, ok := p.Bar(); e != (pile.Entry{}) || ok {
			t.Error(e, ok)
		}
	}
	holds(t, p, 4, plain(0), plain(1), plain(2), plain(3))
}

// A barrier at the bottom, and one on top.
func TestCutEnds(t *testing.T) {
	p := of(t, 4)
	p.Push(barrier(1))
	p.Push(plain(2))
	p.Push(barrier(3))
	if e, ok := p.Cut(); e != barrier(3) || !ok {
		t.Error(e, ok)
	}
	if e, ok := p.Top(); e != plain(2) || !ok || p.Len() != 2 {
		t.Error(e, ok)
	}
	if e, ok := p.Cut(); e != barrier(1) || !ok {
		t.Error(e, ok)
	}
	none(t, p, 3)
}

// A barrier that was taken away by Pop is one no more, and the one below it is the topmost.
func TestBarBehindPop(t *testing.T) {
	p := of(t, 4)
	p.Push(barrier(1))
	p.Push(plain(2))
	p.Push(barrier(3))
	p.Pop()
	p.Push(plain(4))
	if e, ok := p.Bar(); e != barrier(1) || !ok {
		t.Error(e, ok)
	}
	p.Cut()
	p.Push(plain(5))
	if e, ok := p.Bar(); e != (pile.Entry{}) || ok {
		t.Error(e, ok)
	}
	holds(t, p, 3, plain(5))
}

// A barrier that was refused isn't the topmost one.
func TestBarRefused(t *testing.T) {
	p := of(t, 2)
	p.Push(barrier(1))
	p.Push(plain(2))
	if p.Push(barrier(3)) {
		t.Error("Push")
	}
	if e, ok := p.Bar(); e != barrier(1) || !ok {
		t.Error(e, ok)
	}
	if e, ok := p.Cut(); e != barrier(1) || !ok {
		t.Error(e, ok)
	}
	none(t, p, 2)
}

// A barrier's numbers have no part in whether it is one.
func TestBarNumbers(t *testing.T) {
	for _, x := range values() {
		p := of(t, 3)
		bar := pile.Entry{Bar: true, Pc: x, Pos: x, Mark: x, Origin: x, Val: x}
		way := bar
		way.Bar = false
		p.Push(bar)
		p.Push(way)
		if e, ok := p.Bar(); e != bar || !ok {
			t.Errorf("%d: %v, %t", x, e, ok)
		}
		if e, ok := p.Cut(); e != bar || !ok {
			t.Errorf("%d: %v, %t", x, e, ok)
		}
		none(t, p, 2)
	}
}

// A barrier as deep as may be, asked for from each height.
func TestBarDeep(t *testing.T) {
	p := of(t, 65536)
	p.Push(plain(0))
	p.Push(barrier(1))
	for i := 2; i < 65536; i++ {
		p.Push(plain(i))
		if e, ok := p.Bar(); e != barrier(1) || !ok {
			t.Fatalf("%v, %t at the height %d", e, ok, i)
		}
	}
	if e, ok := p.Cut(); e != barrier(1) || !ok {
		t.Error(e, ok)
	}
	holds(t, p, 65536, plain(0))
}

// As many barriers as there may be, each cut by itself.
func TestCutMany(t *testing.T) {
	p := of(t, 65536)
	for i := range 65536 {
		p.Push(barrier(i))
	}
	for i := 65535; i >= 0; i-- {
		if e, ok := p.Cut(); e != barrier(i) || !ok || p.Len() != i {
			t.Fatalf("%v, %t; want the barrier %d", e, ok, i)
		}
	}
	none(t, p, 65536)
}

// P16.1 and P16.2: all that is asked of a pile, in any order.

// scripts hands all lists of so many numbers from 0 up to kinds to do.
func scripts(length, kinds int, do func([]int)) {
	l := make([]int, length)
	for {
		do(l)
		i := 0
		for i < length && l[i] == kinds-1 {
			l[i] = 0
			i++
		}
		if i == length {
			return
		}
		l[i]++
	}
}

// asked does one of five things to a pile and a model, and tells whether both told the same, and are the same then.
func asked(p *pile.Pile, m *model, what, x int) bool {
	same := true
	switch what {
	case 0, 1:
		e := entry(x, what == 1)
		same = p.Push(e) == m.push(e)
	case 2, 3:
		take := p.Pop
		if what == 3 {
			take = p.Cut
		}
		e, ok := take()
		want, is := m.take(what == 3)
		same = e == want && ok == is
	case 4:
		p.Clear()
		m.entries = nil
	}
	return same && reads(p, m)
}

// All short lists of what may be asked, over small limits.
func TestShort(t *testing.T) {
	for limit := range 5 {
		scripts(7, 5, func(l []int) {
			p, m := of(t, limit), &model{limit: limit}
			for at, what := range l {
				if !asked(p, m, what, at) {
					t.Fatalf("of %d: %v at %d: Len %d, Most %d; want %v, %d", limit, l, at, p.Len(), p.Most(), m.entries, m.most)
				}
			}
			holds(t, p, m.most, m.entries...)
		})
	}
}

// Long ones by chance, some of which press against the limit.
func TestGrown(t *testing.T) {
	r := rand.New(rand.NewSource(16))
	for range 400 {
		limit := r.Intn(60)
		p, m := of(t, limit), &model{limit: limit}
		for at := range 500 {
			what := [...]int{0, 0, 0, 0, 0, 1, 1, 2, 2, 2, 2, 3}[r.Intn(12)]
			if r.Intn(150) == 0 {
				what = 4
			}
			if !asked(p, m, what, at) {
				t.Fatalf("of %d: %d at %d: Len %d, Most %d; want %d, %d", limit, what, at, p.Len(), p.Most(), len(m.entries), m.most)
			}
		}
		holds(t, p, m.most, m.entries...)
	}
}

// One pile has no part in another one.
func TestTwo(t *testing.T) {
	a, b := of(t, 3), of(t, 3)
	a.Push(barrier(1))
	a.Push(plain(2))
	none(t, b, 0)
	b.Push(plain(3))
	if e, ok := b.Cut(); e != (pile.Entry{}) || ok {
		t.Error(e, ok)
	}
	b.Clear()
	holds(t, a, 2, barrier(1), plain(2))
	none(t, b, 1)
	none(t, of(t, 3), 0)
}

// P1: any number at all: each call ends, and none panics.
func TestAny(t *testing.T) {
	for _, x := range append(beyond(65536), values()...) {
		p, e := pile.New(x)
		if (e == api.OK) != (x >= 0 && x <= 65536) || (p == nil) != (e != api.OK) {
			t.Errorf("New(%d): error %d", x, e)
		}
		if p == nil {
			continue
		}
		m := &model{limit: x}
		for at, what := range []int{2, 3, 4, 0, 1, 0, 3, 3, 1, 2, 2, 2, 0, 4, 2, 3} {
			if !asked(p, m, what, at) {
				t.Errorf("of %d: %d at %d", x, what, at)
			}
		}
	}
}
