package event_test

import (
	"math"
	"math/rand"
	"slices"
	"testing"

	"clew/api"
	"clew/event"
)

// field is one of a state's numbers: where it stands, and the ends of what it may be.
type field struct {
	name   string
	of     func(s *event.State) *int
	lo, hi int
}

func fields() []field {
	return []field{
		{"Kind", func(s *event.State) *int { return &s.Kind }, 1, 14},
		{"Node", func(s *event.State) *int { return &s.Node }, 0, 16384},
		{"Phase", func(s *event.State) *int { return &s.Phase }, 0, 16384},
		{"Pos", func(s *event.State) *int { return &s.Pos }, 0, 65536},
		{"Start", func(s *event.State) *int { return &s.Start }, 0, 65536},
		{"Depth", func(s *event.State) *int { return &s.Depth }, 0, 65536},
		{"Origin", func(s *event.State) *int { return &s.Origin }, -1, 1048576},
	}
}

// probes are numbers at all edges, beside them, and some that would be within if they were cut to fewer bits.
func probes() []int {
	l := []int{math.MinInt, math.MinInt + 1, -1 << 32, -1<<32 + 1, -1 << 16, -257, math.MaxInt - 1, math.MaxInt}
	for _, edge := range []int{0, 14, 99, 256, 16384, 65536, 1 << 17, 1048576, 1 << 24, 1 << 32} {
		l = append(l, edge-2, edge-1, edge, edge+1, edge+2)
	}
	slices.Sort(l)
	return slices.Compact(l)
}

// so is a number again and again.
func so(x, many int) []int {
	l := []int{}
	for range many {
		l = append(l, x)
	}
	return l
}

// sample is a state that may be with so many groups, all of whose numbers differ.
func sample(groups int) event.State {
	s := event.State{Kind: 7, Node: 3, Phase: 2, Pos: 11, Start: 5, Depth: 4, Origin: 9}
	for i := range groups + 1 {
		s.Caps = append(s.Caps, 20+i, 200+i)
	}
	return s
}

// may is whether a state may be, as the chapter has it, clause by clause.
func may(s event.State, groups int) bool {
	ok := groups >= 0 && groups <= 99 && len(s.Caps) == groups+groups+2
	for _, f := range fields() {
		x := *f.of(&s)
		ok = ok && f.lo <= x && x <= f.hi
	}
	for _, x := range s.Caps {
		ok = ok && (x == -1 || 0 <= x && x <= 65536)
	}
	return ok
}

// alike is whether two states are the same, number by number.
func alike(a, b event.State) bool {
	if a.Kind != b.Kind || a.Node != b.Node || a.Phase != b.Phase || a.Pos != b.Pos || a.Start != b.Start || a.Depth != b.Depth || a.Origin != b.Origin || len(a.Caps) != len(b.Caps) {
		return false
	}
	for i, x := range a.Caps {
		if x != b.Caps[i] {
			return false
		}
	}
	return true
}

// holds holds what Right tells of a state to be what is wanted, and what the model has.
func holds(t *testing.T, s event.State, groups int, want bool) {
	t.Helper()
	if s.Right(groups) != want {
		t.Errorf("Right(%d) of %v: not %t", groups, s, want)
	}
	if may(s, groups) != want {
		t.Errorf("the model of %v with %d: not %t", s, groups, want)
	}
}

// P14.1: names.

func TestKinds(t *testing.T) {
	for i, kind := range []int{event.Begin, event.Step, event.Miss, event.Held, event.Turn, event.Fork, event.Again, event.Open, event.Close, event.Into, event.Out, event.Drop, event.Match, event.None} {
		if kind != i+1 {
			t.Errorf("the kind %d is %d", i+1, kind)
		}
	}
}

func TestName(t *testing.T) {
	want := map[int]string{
		1: "begin", 2: "step", 3: "miss", 4: "held", 5: "turn", 6: "fork", 7: "again",
		8: "open", 9: "close", 10: "into", 11: "out", 12: "drop", 13: "match", 14: "none",
	}
	for kind := -1000; kind <= 1000; kind++ {
		if name := event.Name(kind); name != want[kind] {
			t.Errorf("Name(%d) = %q", kind, name)
		}
	}
	for _, kind := range append(probes(), 1<<8+1, 1<<16+1, 1<<32+14, -1<<8+1, -1<<32+14) {
		if name := event.Name(kind); name != want[kind] {
			t.Errorf("Name(%d) = %q", kind, name)
		}
	}
}

// P14.1: the state ahead of all.

func TestBlank(t *testing.T) {
	of := func(groups int) {
		t.Helper()
		s := event.Blank(groups)
		want := event.State{Origin: -1, Caps: so(-1, 2*min(max(groups, 0), 99)+2)}
		if !alike(s, want) {
			t.Errorf("Blank(%d) = %v", groups, s)
		}
	}
	for groups := -3; groups <= 103; groups++ {
		of(groups)
	}
	for _, groups := range probes() {
		of(groups)
	}
}

func TestBlankLengths(t *testing.T) {
	for groups, want := range map[int]int{math.MinInt: 2, -1: 2, 0: 2, 1: 4, 2: 6, 98: 198, 99: 200, 100: 200, math.MaxInt: 200} {
		if many := len(event.Blank(groups).Caps); many != want {
			t.Errorf("Blank(%d) has %d Caps", groups, many)
		}
	}
}

// A Blank has no Kind, so it may not be; with one it may.
func TestBlankRight(t *testing.T) {
	for groups := range 100 {
		s := event.Blank(groups)
		holds(t, s, groups, false)
		s.Kind = event.Begin
		holds(t, s, groups, true)
		holds(t, s, groups+1, false)
		holds(t, s, groups-1, false)
	}
}

// P14.1: which states may be.

func TestRight(t *testing.T) {
	for _, x := range []struct {
		s      event.State
		groups int
		want   bool
	}{
		{event.State{}, 0, false},
		{event.State{Kind: 1}, 0, false},
		{event.State{Kind: 1, Caps: []int{}}, 0, false},
		{event.State{Kind: 1, Caps: []int{-1}}, 0, false},
		{event.State{Kind: 1, Caps: []int{-1, -1}}, 0, true},
		{event.State{Kind: 1, Caps: []int{-1, -1, -1}}, 0, false},
		{event.State{Kind: 1, Caps: []int{-1, -1, -1}}, 1, false},
		{event.State{Kind: 1, Caps: []int{-1, -1, -1, -1}}, 1, true},
		// The least and the greatest of all.
		{event.State{Kind: 1, Origin: -1, Caps: []int{-1, -1}}, 0, true},
		{event.State{Kind: 14, Node: 16384, Phase: 16384, Pos: 65536, Start: 65536, Depth: 65536, Origin: 1048576, Caps: []int{65536, 65536}}, 0, true},
		{event.State{Kind: 13, Caps: so(65536, 200)}, 99, true},
		// The chapter asks for nothing of how numbers go with one another: a half of a span, one that ends ahead of where it begins, a place ahead of the start, a kind that goes back to none, and one that does for no reason.
		{event.State{Kind: 9, Caps: []int{-1, 5}}, 0, true},
		{event.State{Kind: 9, Caps: []int{5, -1}}, 0, true},
		{event.State{Kind: 9, Caps: []int{7, 5}}, 0, true},
		{event.State{Kind: 2, Pos: 1, Start: 6, Origin: -1, Caps: []int{-1, -1}}, 0, true},
		{event.State{Kind: 7, Origin: -1, Caps: []int{-1, -1}}, 0, true},
		{event.State{Kind: 14, Depth: 8, Phase: 3, Origin: 77, Caps: []int{0, 0}}, 0, true},
	} {
		holds(t, x.s, x.groups, x.want)
	}
}

// The chapter's example: the walk of "a|b" over "b".
func TestRightWalk(t *testing.T) {
	for _, s := range []event.State{
		{Kind: event.Begin, Origin: -1, Caps: []int{-1, -1}},
		{Kind: event.Fork, Depth: 1, Origin: -1, Caps: []int{-1, -1}},
		{Kind: event.Miss, Node: 1, Depth: 1, Origin: -1, Caps: []int{-1, -1}},
		{Kind: event.Again, Phase: 1, Origin: 1, Caps: []int{-1, -1}},
		{Kind: event.Step, Node: 2, Pos: 1, Origin: -1, Caps: []int{-1, -1}},
		{Kind: event.Match, Pos: 1, Origin: -1, Caps: []int{0, 1}},
	} {
		holds(t, s, 0, true)
		holds(t, s, 1, false)
	}
}

// Each number at its edges, and beside them.
func TestRightEdges(t *testing.T) {
	for _, f := range fields() {
		for _, groups := range []int{0, 1, 99} {
			for x, want := range map[int]bool{math.MinInt: false, f.lo - 1: false, f.lo: true, f.lo + 1: true, f.hi - 1: true, f.hi: true, f.hi + 1: false, math.MaxInt: false} {
				s := sample(groups)
				*f.of(&s) = x
				holds(t, s, groups, want)
			}
		}
	}
}

// Each number as any.
func TestRightNumbers(t *testing.T) {
	for _, f := range fields() {
		for _, x := range probes() {
			s := sample(2)
			*f.of(&s) = x
			holds(t, s, 2, f.lo <= x && x <= f.hi)
		}
	}
}

// Each of the Caps as any.
func TestRightCaps(t *testing.T) {
	for _, groups := range []int{0, 1, 3, 99} {
		for i := range 2*groups + 2 {
			for _, x := range probes() {
				s := sample(groups)
				s.Caps[i] = x
				holds(t, s, groups, -1 <= x && x <= 65536)
			}
		}
	}
}

// Each number of Caps, with each number of groups.
func TestRightGroups(t *testing.T) {
	for many := range 206 {
		s := sample(0)
		s.Caps = so(-1, many)
		for groups := -3; groups <= 103; groups++ {
			holds(t, s, groups, 0 <= groups && groups <= 99 && many == 2*groups+2)
		}
		for _, groups := range append(probes(), math.MinInt+many/2-1, math.MaxInt/2, math.MaxInt/2+many/2) {
			holds(t, s, groups, 0 <= groups && groups <= 99 && many == 2*groups+2)
		}
	}
	// As many Caps as are asked for, but beyond how many groups there may be.
	s := sample(100)
	holds(t, s, 100, false)
	holds(t, s, 99, false)
	s = sample(1 << 14)
	holds(t, s, 1<<14, false)
}

// Two numbers at one time, none of which makes up for the other one.
func TestRightTwo(t *testing.T) {
	few := []int{math.MinInt, -2, -1, 0, 1, 14, 15, 16384, 16385, 65536, 65537, 1048576, 1048577, math.MaxInt}
	for _, f := range fields() {
		for _, g := range fields() {
			for _, x := range few {
				for _, y := range few {
					s := sample(1)
					*f.of(&s) = x
					*g.of(&s) = y
					if s.Right(1) != may(s, 1) {
						t.Fatalf("Right(1) of %v", s)
					}
				}
			}
		}
	}
}

// grown is a state of any numbers, most of which may be.
func grown(r *rand.Rand) (event.State, int) {
	all := probes()
	pick := func(lo, hi int) int {
		switch r.Intn(25) {
		case 0:
			return all[r.Intn(len(all))]
		case 1:
			return hi
		case 2:
			return lo
		}
		return lo + r.Intn(hi-lo+1)
	}
	var s event.State
	for _, f := range fields() {
		*f.of(&s) = pick(f.lo, f.hi)
	}
	groups := r.Intn(4)
	for range 2*groups + 2 {
		s.Caps = append(s.Caps, pick(-1, 65536))
	}
	if r.Intn(10) == 0 {
		groups += r.Intn(3) - 1
	}
	return s, groups
}

func TestRightGrown(t *testing.T) {
	r := rand.New(rand.NewSource(14))
	right := 0
	for range 100000 {
		s, groups := grown(r)
		if s.Right(groups) != may(s, groups) {
			t.Fatalf("Right(%d) of %v", groups, s)
		}
		if s.Right(groups) {
			right++
		}
	}
	if right < 10000 || right > 90000 {
		t.Error("too much of one kind:", right)
	}
}

// P14.2: spans.

func TestSpan(t *testing.T) {
	s := event.State{Caps: []int{0, 9, -1, -1, 3, 3, 7, -1, -1, 7, 8, 2, 65536, 65536}}
	for _, x := range []struct {
		group, from, to int
		ok              bool
	}{
		{0, 0, 9, true},
		{1, 0, 0, false},
		{2, 3, 3, true},
		// Half of a span is none.
		{3, 0, 0, false},
		{4, 0, 0, false},
		// What is told is what stands there.
		{5, 8, 2, true},
		{6, 65536, 65536, true},
		// Groups that aren't there.
		{7, 0, 0, false}, {8, 0, 0, false}, {-1, 0, 0, false}, {-2, 0, 0, false}, {99, 0, 0, false}, {100, 0, 0, false},
		{math.MinInt, 0, 0, false}, {math.MaxInt, 0, 0, false}, {math.MinInt / 2, 0, 0, false}, {math.MaxInt / 2, 0, 0, false}, {math.MaxInt/2 + 1, 0, 0, false},
	} {
		if from, to, ok := s.Span(x.group); from != x.from || to != x.to || ok != x.ok {
			t.Errorf("Span(%d) = %d, %d, %t", x.group, from, to, ok)
		}
	}
}

// A span of noughts is one.
func TestSpanOfNoughts(t *testing.T) {
	s := event.State{Caps: []int{0, 0, 0, 5, 0, -1, -1, 0}}
	for group, want := range []bool{true, true, false, false, false} {
		if _, _, ok := s.Span(group); ok != want {
			t.Errorf("Span(%d): %t", group, ok)
		}
	}
}

// Each two Caps: a span, where none is below 0, whatever else they are; and each group of a state that may be.
func TestSpanAll(t *testing.T) {
	for _, x := range probes() {
		for _, y := range probes() {
			s := event.State{Caps: []int{-1, 4, x, y, 6, -1}}
			from, to, ok := s.Span(1)
			want := x >= 0 && y >= 0
			if ok != want || want && (from != x || to != y) || !want && (from != 0 || to != 0) {
				t.Errorf("Span of %d, %d: %d, %d, %t", x, y, from, to, ok)
			}
		}
	}
	s := sample(99)
	for group := -5; group < 110; group++ {
		from, to, ok := s.Span(group)
		want := 0 <= group && group <= 99
		if ok != want || want && (from != 20+group || to != 200+group) || !want && (from != 0 || to != 0) {
			t.Errorf("Span(%d) = %d, %d, %t", group, from, to, ok)
		}
	}
}

// Where a Cap has no other one beside it, there is no group, and what stands in the spare room is no Cap.
func TestSpanShort(t *testing.T) {
	room := []int{1, 2, 3, 4, 5, 6}
	for many := range len(room) + 1 {
		s := event.State{Caps: room[:many]}
		for group := -2; group <= 4; group++ {
			from, to, ok := s.Span(group)
			want := group >= 0 && 2*group+1 < many
			if ok != want || want && (from != 2*group+1 || to != 2*group+2) || !want && (from != 0 || to != 0) {
				t.Errorf("%d Caps: Span(%d) = %d, %d, %t", many, group, from, to, ok)
			}
		}
	}
	if from, to, ok := (event.State{}).Span(0); from != 0 || to != 0 || ok {
		t.Error(from, to, ok)
	}
}

// P14.2: memory of its own.

func TestOwn(t *testing.T) {
	for _, s := range []event.State{{}, {Caps: []int{}}, {Kind: -7, Node: math.MaxInt, Origin: math.MinInt, Caps: []int{math.MinInt, 3, math.MaxInt}}, sample(0), sample(1), sample(99), sample(1000), event.Blank(2)} {
		if own := s.Own(); !alike(own, s) {
			t.Errorf("Own of %v: %v", s, own)
		}
	}
	for _, f := range fields() {
		for _, x := range probes() {
			s := sample(1)
			*f.of(&s) = x
			if own := s.Own(); !alike(own, s) || *f.of(&own) != x {
				t.Errorf("%s: Own of %v: %v", f.name, s, own)
			}
		}
	}
}

// spoil writes over all of a list, its spare room too.
func spoil(l []int) {
	l = l[:cap(l)]
	for i := range l {
		l[i] = -99
	}
}

// What becomes of one state has no part in the other one, whichever it is, nor in a third one.
func TestOwnShares(t *testing.T) {
	for _, many := range []int{1, 2, 4, 200} {
		room := append(sample(99).Caps, 1, 2, 3)
		s := event.State{Kind: 2, Caps: room[:many]}
		was := slices.Clone(s.Caps)
		a, b := s.Own(), s.Own()
		spoil(a.Caps)
		if !slices.Equal(s.Caps, was) || !slices.Equal(b.Caps, was) || room[many] == -99 {
			t.Errorf("%d: what was told is shared", many)
		}
		spoil(room)
		if !slices.Equal(b.Caps, was) {
			t.Errorf("%d: what was handed in is kept", many)
		}
	}
}

func TestBlankShares(t *testing.T) {
	for _, groups := range []int{-1, 0, 1, 2, 99, 100} {
		a, b := event.Blank(groups), event.Blank(groups)
		spoil(a.Caps)
		for _, s := range []event.State{b, event.Blank(groups), event.Blank(99)} {
			if slices.Contains(s.Caps, -99) {
				t.Errorf("%d: what was told is shared", groups)
			}
		}
	}
}

// P14.2: what is the same.

func TestSame(t *testing.T) {
	for _, x := range []struct {
		a, b event.State
		want bool
	}{
		{event.State{}, event.State{}, true},
		// Nil and empty lists are one.
		{event.State{Kind: 3}, event.State{Kind: 3, Caps: []int{}}, true},
		{event.State{Caps: make([]int, 0, 4)}, event.State{}, true},
		{event.State{}, event.State{Caps: []int{-1}}, false},
		{event.State{}, event.State{Caps: []int{0}}, false},
		{event.State{Caps: []int{0}}, event.State{Caps: []int{0, 0}}, false},
		{event.State{Caps: []int{1, 2}}, event.State{Caps: []int{2, 1}}, false},
		{event.State{Caps: []int{1, 2}}, event.State{Caps: []int{1, 2, 3}}, false},
		{event.State{Caps: []int{1, 2, 3}}, event.State{Caps: []int{2, 3}}, false},
		{event.State{Caps: []int{1, 2, 3}}, event.State{Caps: []int{1, 2, 3}}, true},
		// Caps that say no span alike aren't the same.
		{event.State{Caps: []int{-1, -1}}, event.State{Caps: []int{-2, -2}}, false},
		{event.State{Caps: []int{-1, -1}}, event.State{Caps: []int{-1, 5}}, false},
		// One number in the place of another one.
		{event.State{Kind: 1}, event.State{Node: 1}, false},
		{event.State{Pos: 1}, event.State{Start: 1}, false},
		{event.State{Depth: 1}, event.State{Origin: 1}, false},
		{event.Blank(0), event.Blank(-5), true},
		{event.Blank(99), event.Blank(100), true},
		{event.Blank(0), event.Blank(1), false},
		{event.Blank(98), event.Blank(99), false},
		{event.Blank(0), event.State{}, false},
	} {
		if event.Same(x.a, x.b) != x.want || event.Same(x.b, x.a) != x.want {
			t.Errorf("Same of %v and %v: not %t", x.a, x.b, x.want)
		}
	}
}

// Each number by itself makes another state, whatever it is, by how little soever.
func TestSameNumbers(t *testing.T) {
	for _, f := range fields() {
		for _, x := range probes() {
			a := sample(1)
			*f.of(&a) = x
			if !event.Same(a, a.Own()) {
				t.Errorf("%s %d: not the same", f.name, x)
			}
			for _, more := range []int{-1, 1, 1 << 8, 1 << 16, 1 << 32, math.MinInt} {
				b := a.Own()
				*f.of(&b) += more
				if event.Same(a, b) || event.Same(b, a) {
					t.Errorf("%s %d: the same with %d more", f.name, x, more)
				}
			}
		}
	}
}

// Each of the Caps likewise, and each that there is more, or less.
func TestSameCaps(t *testing.T) {
	for _, groups := range []int{0, 1, 5, 99, 300} {
		a := sample(groups)
		for i := range a.Caps {
			for _, more := range []int{-1, 1, 1 << 8, 1 << 16, 1 << 32, math.MinInt} {
				b := a.Own()
				b.Caps[i] += more
				if event.Same(a, b) || event.Same(b, a) {
					t.Errorf("%d groups: the same with %d more at %d", groups, more, i)
				}
			}
			b := a.Own()
			b.Caps = b.Caps[:i]
			if event.Same(a, b) || event.Same(b, a) {
				t.Errorf("%d groups: the same with %d Caps", groups, i)
			}
		}
	}
}

// Of grown states, and of each with one of their parts from another one.
func TestSameGrown(t *testing.T) {
	r := rand.New(rand.NewSource(15))
	var l []event.State
	for range 200 {
		s, _ := grown(r)
		near := s.Own()
		f := fields()[r.Intn(7)]
		*f.of(&near) += r.Intn(3) - 1
		l = append(l, s, near)
	}
	for _, a := range l {
		for _, b := range l {
			if event.Same(a, b) != alike(a, b) {
				t.Fatalf("Same of %v and %v", a, b)
			}
		}
	}
}

// P1, and the rules of memory.

// What is asked changes no state, its spare room neither, and each answer is told again.
func TestNothingChanges(t *testing.T) {
	room := append(sample(3).Caps, 7, 8, 9)
	was := slices.Clone(room)
	s := event.State{Kind: 9, Node: 1, Pos: 4, Origin: -1, Caps: room[:8]}
	as := s
	for range 3 {
		if !s.Right(3) || s.Right(2) || s.Right(4) || !event.Same(s, as) || !event.Same(s.Own(), s) {
			t.Error("Right, Same, Own")
		}
		if from, to, ok := s.Span(3); from != 23 || to != 203 || !ok {
			t.Error(from, to, ok)
		}
		if event.Name(s.Kind) != "close" || len(event.Blank(3).Caps) != 8 {
			t.Error("Name, Blank")
		}
		if !slices.Equal(room, was) || !alike(s, as) || cap(s.Caps) != cap(room) {
			t.Fatal("changed", s, room)
		}
	}
}

// Any state at all, with any numbers: each call ends, and none panics.
func TestAny(t *testing.T) {
	lists := [][]int{nil, {}, {math.MinInt}, {math.MaxInt, math.MinInt}, {-1, -1, -1}, so(-1, 201), so(1<<20, 1<<16)}
	for _, caps := range lists {
		for _, x := range probes() {
			s := event.State{Kind: x, Node: x, Phase: x, Pos: x, Start: x, Depth: x, Origin: x, Caps: caps}
			for _, groups := range probes() {
				if s.Right(groups) != may(s, groups) {
					t.Errorf("Right(%d) of %d, %d Caps", groups, x, len(caps))
				}
				if _, _, ok := s.Span(groups); ok && (groups < 0 || 2*groups+1 >= len(caps)) {
					t.Errorf("Span(%d) of %d Caps", groups, len(caps))
				}
			}
			if !event.Same(s, s.Own()) || event.Name(s.Kind) != event.Name(x) {
				t.Errorf("%d, %d Caps", x, len(caps))
			}
		}
	}
}

// The limits that the chapter names are those of api.
func TestLimits(t *testing.T) {
	s := event.State{Kind: event.None, Pos: api.MaxText, Start: api.MaxText, Depth: api.MaxStack, Origin: api.MaxSteps, Caps: so(api.MaxText, 2*api.MaxGroups+2)}
	holds(t, s, api.MaxGroups, true)
}
