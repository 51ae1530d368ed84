package code_test

import (
	"math"
	"math/rand"
	"slices"
	"strings"
	"testing"

	"clew/api"
	"clew/code"
	"clew/rset"
)

// in are instructions, each by its Op, X, Y, Z, Node and Phase, the last of which may be left out.
func in(l ...[]int) []code.Inst {
	var insts []code.Inst
	for _, x := range l {
		x = append(slices.Clone(x), 0, 0, 0, 0, 0)
		insts = append(insts, code.Inst{Op: x[0], X: x[1], Y: x[2], Z: x[3], Node: x[4], Phase: x[5]})
	}
	return insts
}

// some is a program of some instructions, with two of each that they may name.
func some(l ...[]int) code.Program {
	return code.Program{
		Insts:  in(l...),
		Sets:   [][]rset.Range{{{Lo: 'a', Hi: 'a'}}, {}},
		Loops:  []code.Count{{Min: 0, Max: -1, Mode: 0}, {Min: 2, Max: 3, Mode: 1}},
		Groups: 2,
	}
}

// holds holds what Right tells of a program to be what is wanted, and what the model has.
func holds(t *testing.T, p code.Program, want bool) {
	t.Helper()
	if p.Right() != want {
		t.Errorf("Right of %s: not %v", text(p), want)
	}
	if may(p) != want {
		t.Errorf("the model of %s: not %v", text(p), want)
	}
}

// alike holds what Right tells of a program to be what the model has, and tells it.
func alike(t *testing.T, p code.Program) bool {
	t.Helper()
	right := p.Right()
	if right != may(p) {
		t.Fatalf("Right of %s: %v", text(p), right)
	}
	return right
}

// text is a program's instructions.
func text(p code.Program) string {
	var lines []string
	for _, i := range p.Insts[:min(20, len(p.Insts))] {
		lines = append(lines, code.Line(i))
	}
	return strings.Join(lines, "; ")
}

// numbers are such as any may be handed in.
var numbers = []int{math.MinInt, math.MinInt + 1, -1 << 32, -2, -1, 0, 1, 2, 3, 4, 5, 6, 7, 8, 254, 255, 256, 1 << 14, 1<<14 + 1, 1 << 32, math.MaxInt - 1, math.MaxInt}

// P11.1: the chapter's examples, and programs of chapter 12.

func TestRightExamples(t *testing.T) {
	holds(t, code.Program{Insts: in([]int{code.Match})}, true)
	holds(t, code.Program{Insts: in([]int{code.Cut}, []int{code.Match})}, false)
}

// full is a program in which each Op stands.
func full() code.Program {
	return some(
		[]int{code.Fork, 5},
		[]int{code.Set, 1},
		[]int{code.Hold, 7},
		[]int{code.Back, 2, 1},
		[]int{code.Jump, 9},
		[]int{code.Way, 7, 0, 0, 0, 1},
		[]int{code.Jump, 9},
		[]int{code.Way, -1, 0, 0, 0, 2},
		[]int{code.Open, 1},
		[]int{code.Init, 1},
		[]int{code.Loop, 1, 21, 13},
		[]int{code.Way, -1, 0, 0, 0, 2},
		[]int{code.Jump, 21},
		[]int{code.Mark, 1},
		[]int{code.Into, 18},
		[]int{code.Retreat, 0, 255},
		[]int{code.Meet},
		[]int{code.Refute},
		[]int{code.Into, -1},
		[]int{code.Cut},
		[]int{code.Next, 1, 10},
		[]int{code.Close, 2},
		[]int{code.Into, -1},
		[]int{code.Set, 0},
		[]int{code.Peek},
		[]int{code.Match},
	)
}

func TestRightPrograms(t *testing.T) {
	holds(t, full(), true)
	for _, l := range [][][]int{
		{{code.Set, 0}, {code.Set, 1}},
		{{code.Fork, 3}, {code.Set}, {code.Jump, 5}, {code.Way, -1, 0, 0, 0, 1}, {code.Set, 1}},
		{{code.Fork, 2}, {code.Jump, 6}, {code.Way, 4}, {code.Jump, 6}, {code.Way, -1}, {code.Set}},
		{{code.Open, 1}, {code.Open, 2}, {code.Close, 2}, {code.Close, 1}, {code.Back, 1}, {code.Back, 2, 1}},
		// The chapter 12's "a*", and it lazy.
		{{code.Init}, {code.Loop, 0, 7, 4}, {code.Way, -1, 0, 0, 0, 2}, {code.Jump, 7}, {code.Mark}, {code.Set}, {code.Next, 0, 1}},
		{{code.Init}, {code.Loop, 0, 6, 3}, {code.Way, -1, 0, 0, 0, 1}, {code.Mark}, {code.Set}, {code.Next, 0, 1}},
		// A repeat in another one.
		{{code.Init}, {code.Loop, 0, 13, 4}, {code.Way, -1}, {code.Jump, 13}, {code.Mark}, {code.Init, 1}, {code.Loop, 1, 12, 9}, {code.Way, -1}, {code.Jump, 12}, {code.Mark, 1}, {code.Set}, {code.Next, 1, 6}, {code.Next, 0, 1}},
		{{code.Into, -1}, {code.Set}, {code.Cut}},
		{{code.Into, -1}, {code.Set}, {code.Peek}},
		{{code.Into, 3}, {code.Set}, {code.Refute}},
		{{code.Into, -1}, {code.Retreat, 1, 1}, {code.Set}, {code.Meet}, {code.Peek}},
		{{code.Into, 5}, {code.Retreat, 1, 1}, {code.Set}, {code.Meet}, {code.Refute}},
		{{code.Into, 4}, {code.Into, 3}, {code.Refute}, {code.Refute}},
		{{code.Into, -1}, {code.Into, 3}, {code.Refute}, {code.Into, -1}, {code.Cut}, {code.Peek}},
	} {
		holds(t, some(append(l, []int{code.Match})...), true)
	}
}

// P11.1: what a program has, but for its instructions.

func TestRightEnd(t *testing.T) {
	set, match := []int{code.Set}, []int{code.Match}
	holds(t, some(), false)
	holds(t, code.Program{}, false)
	holds(t, code.Program{Insts: []code.Inst{}}, false)
	holds(t, some(set), false)
	holds(t, some(set, set), false)
	holds(t, some(match), true)
	holds(t, some(match, match), false)
	holds(t, some(match, set), false)
	holds(t, some(set, match, set), false)
	holds(t, some(set, match, match), false)
	holds(t, some(set, match, set, match), false)
	holds(t, some([]int{code.Jump, 2}, match, match), false)
	holds(t, some(set, set, match), true)
}

func TestRightGroups(t *testing.T) {
	for _, x := range append(numbers, api.MaxGroups-1, api.MaxGroups, api.MaxGroups+1) {
		p := some([]int{code.Match})
		p.Groups = x
		holds(t, p, 0 <= x && x <= 99)
	}
}

func TestRightSets(t *testing.T) {
	for _, c := range []struct {
		l    []rset.Range
		want bool
	}{
		{nil, true},
		{[]rset.Range{}, true},
		{[]rset.Range{{Lo: 0, Hi: 0}}, true},
		{[]rset.Range{{Lo: 0, Hi: api.MaxSym}}, true},
		{[]rset.Range{{Lo: 1, Hi: 2}, {Lo: 4, Hi: 5}}, true},
		{[]rset.Range{{Lo: 1, Hi: 2}, {Lo: 3, Hi: 5}}, false},
		{[]rset.Range{{Lo: 1, Hi: 3}, {Lo: 2, Hi: 5}}, false},
		{[]rset.Range{{Lo: 4, Hi: 5}, {Lo: 1, Hi: 2}}, false},
		{[]rset.Range{{Lo: 1, Hi: 2}, {Lo: 1, Hi: 2}}, false},
		{[]rset.Range{{Lo: 2, Hi: 1}}, false},
		{[]rset.Range{{Lo: -1, Hi: 1}}, false},
		{[]rset.Range{{Lo: 1, Hi: api.MaxSym + 1}}, false},
		{[]rset.Range{{Lo: math.MinInt, Hi: math.MaxInt}}, false},
	} {
		for _, sets := range [][][]rset.Range{{c.l}, {c.l, {}}, {{}, c.l}, {{}, c.l, {}}} {
			p := some([]int{code.Match})
			p.Sets = sets
			holds(t, p, c.want)
		}
	}
	// How many there are is not bounded.
	p := some([]int{code.Set, 9999}, []int{code.Match})
	p.Sets = make([][]rset.Range, 9999)
	holds(t, p, false)
	p.Sets = make([][]rset.Range, 10000)
	holds(t, p, true)
}

func TestRightCounts(t *testing.T) {
	for _, c := range []struct {
		least, most int
		want        bool
	}{
		{0, -1, true}, {1, -1, true}, {1000, -1, true}, {1001, -1, false}, {-1, -1, false},
		{0, 0, false}, {0, 1, true}, {0, 1000, true}, {0, 1001, false}, {0, -2, false},
		{1, 0, false}, {1, 1, true}, {2, 1, false}, {2, 2, true}, {2, 3, true}, {-1, 1, false}, {-1, 0, false},
		{999, 1000, true}, {1000, 999, false}, {1000, 1000, true}, {1000, 1001, false}, {1001, 1001, false},
		{math.MinInt, -1, false}, {math.MaxInt, -1, false}, {math.MinInt, 1, false}, {0, math.MaxInt, false}, {0, math.MinInt, false}, {math.MaxInt, math.MaxInt, false}, {math.MinInt, math.MinInt, false},
	} {
		for _, mode := range numbers {
			bad := code.Count{Min: c.least, Max: c.most, Mode: mode}
			good := code.Count{Max: -1}
			for _, l := range [][]code.Count{{bad}, {bad, good}, {good, bad}, {good, bad, good}} {
				p := some([]int{code.Match})
				p.Loops = l
				holds(t, p, c.want && (mode == 0 || mode == 1))
			}
		}
	}
}

func TestRightManyLoops(t *testing.T) {
	for _, many := range []int{0, 1, api.MaxPattern - 1, api.MaxPattern, api.MaxPattern + 1, 2 * api.MaxPattern} {
		p := some([]int{code.Match})
		p.Loops = slices.Repeat([]code.Count{{Max: -1}}, many)
		holds(t, p, many <= 4096)
	}
	p := some([]int{code.Init, 4095}, []int{code.Mark, 4095}, []int{code.Match})
	p.Loops = slices.Repeat([]code.Count{{Max: 1}}, 4096)
	holds(t, p, true)
}

// P11.1: each instruction by itself.

func TestRightOps(t *testing.T) {
	for _, op := range append(numbers, 18, 19, 20, 21) {
		p := full()
		for at := range p.Insts {
			q := full()
			q.Insts[at].Op = op
			alike(t, q)
		}
		if op < code.Set || op > code.Match {
			for _, l := range [][][]int{{{op}}, {{op}, {code.Match}}, {{code.Match}, {op}}, {{code.Jump, 2}, {op}, {code.Match}}} {
				holds(t, some(l...), false)
			}
		}
	}
}

func TestRightNodes(t *testing.T) {
	p := full()
	for at := range p.Insts {
		for _, x := range append(numbers, 1<<14-1) {
			q, r := full(), full()
			q.Insts[at].Node = x
			r.Insts[at].Phase = x
			holds(t, q, 0 <= x && x <= 16384)
			holds(t, r, 0 <= x && x <= 16384)
		}
	}
}

// Each X, Y and Z by itself: just those that are told may be.
func TestRightNumbers(t *testing.T) {
	p := full()
	end := len(p.Insts) - 1
	all := slices.Concat(numbers, []int{9, 10, 11, 12, 13, 14, 15, 16, 17, 18, 19, 20, 21, 22, 23, 24, 25, 26, 99, 100})
	for at, may := range [][3][]int{
		{{5, 7, 11}},
		{{0, 1}},
		{{1, 2, 3, 4, 5, 6, 7}},
		{{1, 2}, {0, 1}},
		{{5, 6, 7, 8, 9, 10, 11, 12, 13, 14, 18, 20, 21, 22, 25}},
		{{-1, 7, 11}},
		{{7, 8, 9, 10, 11, 12, 13, 14, 18, 20, 21, 22, 25}},
		{{-1, 11}},
		{{1, 2}},
		{{0, 1}},
		{{1}, {21, 22, 25}, {11, 12, 13, 14, 18, 20, 21, 22, 25}},
		{{-1}},
		{{13, 14, 18, 20, 21, 22, 25}},
		{{0, 1}},
		{{-1, 18, 20, 21, 22, 25}},
		{{0, 1, 2, 3, 4, 5, 6, 7, 8, 9, 10, 11, 12, 13, 14, 15, 16, 17, 18, 19, 20, 21, 22, 23, 24, 25, 26, 99, 100, 254, 255}, {0, 1, 2, 3, 4, 5, 6, 7, 8, 9, 10, 11, 12, 13, 14, 15, 16, 17, 18, 19, 20, 21, 22, 23, 24, 25, 26, 99, 100, 254, 255}},
		{},
		{},
		{{-1, 20, 21, 22, 25}},
		{},
		{{1}, {10}},
		{{1, 2}},
		{{-1, 25}},
		{{0, 1}},
		{},
		{},
	} {
		for k, l := range may {
			if len(l) == 0 {
				l = []int{0}
			}
			for _, x := range all {
				q := full()
				*[]*int{&q.Insts[at].X, &q.Insts[at].Y, &q.Insts[at].Z}[k] = x
				holds(t, q, slices.Contains(l, x))
			}
		}
		if at > end {
			t.Fatal("too many rows")
		}
	}
}

// What isn't there can't be named.
func TestRightNothingThere(t *testing.T) {
	for _, l := range [][]int{{code.Set}, {code.Init}, {code.Mark}, {code.Open, 1}, {code.Close, 1}, {code.Back, 1}, {code.Open}, {code.Close}, {code.Back}} {
		p := some(l, []int{code.Match})
		holds(t, p, l[0] != code.Open && l[0] != code.Close && l[0] != code.Back || len(l) > 1)
		holds(t, code.Program{Insts: p.Insts}, false)
	}
	loop := some([]int{code.Loop, 0, 2, 2}, []int{code.Way, -1}, []int{code.Match})
	holds(t, loop, true)
	holds(t, code.Program{Insts: loop.Insts}, false)
}

func TestRightRetreat(t *testing.T) {
	for _, a := range numbers {
		for _, b := range numbers {
			p := some([]int{code.Into, -1}, []int{code.Retreat, a, b}, []int{code.Cut}, []int{code.Match})
			holds(t, p, 0 <= a && a <= b && b <= 255)
		}
	}
}

// Forks and Ways go to Ways that are behind them, and to nothing else.
func TestRightWays(t *testing.T) {
	set, way, match := []int{code.Set}, []int{code.Way, -1}, []int{code.Match}
	for _, op := range []int{code.Fork, code.Way} {
		for x := -3; x < 8; x++ {
			p := some(way, []int{op, x}, set, way, set, way, match)
			holds(t, p, x == 3 || x == 5 || op == code.Way && x == -1)
		}
	}
}

// A Loop stands ahead of a Way.
func TestRightLoop(t *testing.T) {
	for op := code.Set; op <= code.Match; op++ {
		next := []int{op}
		switch op {
		case code.Way, code.Into:
			next = []int{op, -1}
		case code.Hold, code.Back, code.Open, code.Close:
			next = []int{op, 1}
		case code.Fork, code.Jump:
			next = []int{op, 2}
		case code.Loop:
			next = []int{op, 0, 2, 2}
		}
		holds(t, some([]int{code.Loop, 0, 2, 2}, next, []int{code.Way, -1}, []int{code.Match}), op == code.Way)
	}
	for _, l := range [][][]int{
		{{code.Loop, 0, 1, 1}},
		{{code.Loop, 0, 0, 1}, {code.Way, -1}},
		{{code.Loop, 0, 1, 0}, {code.Way, -1}},
		{{code.Loop, 0, 3, 1}, {code.Way, -1}},
		{{code.Loop, 0, 1, 3}, {code.Way, -1}},
		{{code.Loop, 2, 1, 1}, {code.Way, -1}},
		{{code.Loop, -1, 1, 1}, {code.Way, -1}},
	} {
		holds(t, some(append(l, []int{code.Match})...), false)
	}
	holds(t, some([]int{code.Loop, 1, 1, 1}, []int{code.Way, -1}, []int{code.Match}), true)
}

// A Next goes back to a Loop of its own number that it is within.
func TestRightNext(t *testing.T) {
	way, match := []int{code.Way, -1}, []int{code.Match}
	for number := -1; number <= 2; number++ {
		for to := -1; to <= 6; to++ {
			for _, y := range []int{2, 3, 4, 5, 6} {
				p := some([]int{code.Loop, 0, y, 2}, way, []int{code.Loop, 1, y, 4}, way, []int{code.Next, number, to}, way, match)
				holds(t, p, y >= 5 && (number == 0 && to == 0 || number == 1 && to == 2))
			}
		}
	}
	// No Loop that comes later, be it of the same number, and it itself neither.
	holds(t, some([]int{code.Next, 0, 1}, []int{code.Loop, 0, 3, 3}, way, match), false)
	holds(t, some([]int{code.Next}, match), false)
	// Several may go back to one, and it may end wherever it is behind them.
	holds(t, some([]int{code.Loop, 0, 5, 2}, []int{code.Way, 4}, []int{code.Fork, 4}, []int{code.Next, 0, 0}, way, match), true)
	holds(t, some([]int{code.Loop, 0, 6, 2}, []int{code.Way, 4}, []int{code.Fork, 4}, []int{code.Next, 0, 0}, way, []int{code.Next, 0, 0}, match), true)
	holds(t, some([]int{code.Loop, 0, 5, 2}, []int{code.Way, 4}, []int{code.Fork, 4}, []int{code.Next, 0, 0}, way, []int{code.Next, 0, 0}, match), false)
}

// P11.1: barriers.

func TestRightBarriers(t *testing.T) {
	into, cut, set := []int{code.Into, -1}, []int{code.Cut}, []int{code.Set}
	for _, c := range []struct {
		want bool
		l    [][]int
	}{
		// As many as there are gone, and none at the Match.
		{false, [][]int{into}},
		{false, [][]int{cut}},
		{true, [][]int{into, cut}},
		{false, [][]int{cut, into}},
		{false, [][]int{into, cut, cut}},
		{false, [][]int{into, into, cut}},
		{true, [][]int{into, into, cut, cut}},
		{true, [][]int{into, cut, into, {code.Peek}}},
		{true, [][]int{into, into, {code.Peek}, cut}},
		// One at least where one is needed.
		{false, [][]int{{code.Retreat}}},
		{false, [][]int{{code.Meet}}},
		{false, [][]int{{code.Peek}}},
		{false, [][]int{{code.Refute}}},
		{true, [][]int{into, {code.Retreat}, cut}},
		{true, [][]int{into, {code.Meet}, cut}},
		{true, [][]int{into, {code.Meet}, {code.Meet}, {code.Retreat}, cut}},
		{false, [][]int{into, cut, {code.Meet}}},
		{false, [][]int{into, cut, {code.Retreat}}},
		{true, [][]int{into, {code.Refute}}},
		{false, [][]int{into, cut, {code.Refute}}},
		{true, [][]int{into, into, {code.Refute}}},
		{true, [][]int{{code.Into, 2}, {code.Refute}}},
		{true, [][]int{{code.Into, 2}, cut}},
		{false, [][]int{{code.Into, 2}, {code.Meet}}},
		{true, [][]int{{code.Into, 3}, {code.Refute}, cut}},
		// An Into's X is with as many, also where that is the next place.
		{false, [][]int{{code.Into, 1}, cut}},
		{false, [][]int{{code.Into, 1}, {code.Refute}}},
		{false, [][]int{{code.Into, 1}}},
		{false, [][]int{into, {code.Into, 3}, {code.Refute}}},
		{true, [][]int{into, {code.Into, 3}, {code.Refute}, cut}},
		{false, [][]int{{code.Into, 2}, set}},
		// Forks, Ways and Jumps lead on with as many.
		{true, [][]int{into, {code.Fork, 3}, set, {code.Way, -1}, cut}},
		{false, [][]int{into, {code.Fork, 3}, cut, {code.Way, -1}, cut}},
		{false, [][]int{{code.Fork, 3}, into, {code.Jump, 4}, {code.Way, -1}, cut}},
		{false, [][]int{{code.Fork, 3}, into, {code.Jump, 4}, {code.Way, -1}}},
		{true, [][]int{{code.Fork, 4}, into, cut, {code.Jump, 7}, {code.Way, -1}, into, cut}},
		{false, [][]int{{code.Fork, 4}, into, cut, {code.Jump, 6}, {code.Way, -1}, into, cut}},
		{true, [][]int{{code.Fork, 3}, into, {code.Jump, 5}, {code.Way, -1}, into, cut}},
		{false, [][]int{{code.Fork, 3}, into, {code.Jump, 4}, {code.Way, -1}, into, cut}},
		{false, [][]int{{code.Way, 2}, into, {code.Way, -1}, cut}},
		{true, [][]int{{code.Way, 3}, into, cut, {code.Way, -1}}},
		{false, [][]int{{code.Way, 3}, into, set, {code.Way, -1}, cut}},
		{true, [][]int{{code.Jump, 2}, into}},
		{false, [][]int{{code.Jump, 2}, into, cut}},
		// A Loop leads to the next place, to Y and to Z.
		{true, [][]int{{code.Loop, 0, 4, 2}, {code.Way, -1}, into, cut}},
		{false, [][]int{{code.Loop, 0, 3, 2}, {code.Way, -1}, into, cut}},
		{false, [][]int{{code.Loop, 0, 2, 3}, {code.Way, -1}, into, cut}},
		{false, [][]int{{code.Loop, 0, 5, 5}, {code.Way, -1}, into, set}},
		{true, [][]int{{code.Loop, 0, 5, 5}, {code.Way, -1}, into, {code.Refute}, set}},
		// A Next leads back with as many as the Loop has.
		{true, [][]int{{code.Loop, 0, 5, 2}, {code.Way, -1}, into, cut, {code.Next, 0, 0}}},
		{false, [][]int{{code.Loop, 0, 4, 2}, {code.Way, -1}, into, {code.Next, 0, 0}}},
		{false, [][]int{into, {code.Loop, 0, 5, 3}, {code.Way, -1}, cut, {code.Next, 0, 1}, cut}},
		{true, [][]int{into, {code.Loop, 0, 4, 3}, {code.Way, -1}, {code.Next, 0, 1}, cut}},
		{true, [][]int{{code.Loop, 0, 5, 2}, {code.Way, -1}, into, {code.Refute}, {code.Next, 0, 0}}},
		// It alone leads to the Loop here, whose Way a Jump goes past.
		{true, [][]int{{code.Jump, 3}, {code.Loop, 0, 4, 4}, {code.Way, -1}, {code.Next, 0, 1}}},
		{false, [][]int{{code.Jump, 3}, {code.Loop, 0, 5, 5}, {code.Way, -1}, into, {code.Next, 0, 1}}},
		{true, [][]int{{code.Jump, 4}, {code.Loop, 0, 7, 7}, {code.Way, -1}, cut, into, {code.Next, 0, 1}, set, cut}},
		{false, [][]int{{code.Jump, 4}, {code.Loop, 0, 7, 7}, {code.Way, -1}, set, into, {code.Next, 0, 1}, set, cut}},
		{false, [][]int{{code.Jump, 4}, {code.Loop, 0, 7, 7}, {code.Way, -1}, cut, into, {code.Next, 0, 1}, set, set}},
		{false, [][]int{{code.Jump, 4}, {code.Loop, 0, 7, 3}, {code.Way, -1}, {code.Refute}, {code.Next, 0, 1}, set, set}},
		{true, [][]int{into, {code.Jump, 5}, {code.Loop, 0, 6, 4}, {code.Way, -1}, {code.Refute}, {code.Next, 0, 2}, cut}},
	} {
		holds(t, some(append(c.l, []int{code.Match})...), c.want)
	}
}

// Where the first place doesn't lead, barriers may be as they may, but each instruction is as the table says.
func TestRightNotLedTo(t *testing.T) {
	for _, op := range []int{code.Cut, code.Peek, code.Meet, code.Retreat, code.Refute} {
		holds(t, some([]int{code.Jump, 2}, []int{op}, []int{code.Match}), true)
		holds(t, some([]int{code.Jump, 3}, []int{op}, []int{op}, []int{code.Match}), true)
		holds(t, some([]int{code.Jump, 2}, []int{op, 1}, []int{code.Match}), false)
		holds(t, some([]int{code.Into, -1}, []int{code.Refute}, []int{op}, []int{code.Match}), true)
		holds(t, some([]int{op}, []int{code.Match}), false)
	}
	holds(t, some([]int{code.Jump, 3}, []int{code.Into, -1}, []int{code.Into, 3}, []int{code.Match}), true)
	holds(t, some([]int{code.Jump, 2}, []int{code.Set, 2}, []int{code.Match}), false)
	// No way to the Match, with one barrier ahead of it.
	holds(t, some([]int{code.Into, -1}, []int{code.Refute}, []int{code.Match}), true)
	holds(t, some([]int{code.Into, -1}, []int{code.Loop, 0, 5, 4}, []int{code.Way, -1}, []int{code.Refute}, []int{code.Next, 0, 1}, []int{code.Refute}, []int{code.Match}), true)
}

// P11.1: held against the model.

// All programs of up to three instructions of few numbers.
func TestRightShort(t *testing.T) {
	var all [][]int
	for op := 0; op <= 20; op++ {
		for x := -1; x <= 3; x++ {
			for y := range 3 {
				for z := range 3 {
					all = append(all, []int{op, x, y, z})
				}
			}
		}
	}
	right := 0
	for _, a := range all {
		for _, l := range [][][]int{{a}, {a, {code.Match}}} {
			if alike(t, some(l...)) {
				right++
			}
		}
		for _, b := range all {
			if alike(t, some(a, b, []int{code.Match})) {
				right++
			}
		}
	}
	if right < 400 {
		t.Errorf("just %d may be", right)
	}
}

// choices are the instructions that may stand at a place of a program of so many, but for what they lead to.
func choices(at, many int) [][]int {
	l := [][]int{{code.Set}, {code.Way, -1}, {code.Into, -1}, {code.Cut}, {code.Meet}, {code.Refute}}
	for x := at + 1; x < many; x++ {
		l = append(l, []int{code.Fork, x}, []int{code.Way, x}, []int{code.Jump, x}, []int{code.Into, x})
		for z := at + 1; z < many; z++ {
			l = append(l, []int{code.Loop, 0, x, z})
		}
	}
	for x := range at {
		l = append(l, []int{code.Next, 0, x})
	}
	return l
}

// All programs of four and five instructions, of those whose numbers alone may be.
func TestRightFlows(t *testing.T) {
	right := 0
	var grow func(l [][]int, many int)
	grow = func(l [][]int, many int) {
		if len(l) == many-1 {
			if alike(t, some(append(l, []int{code.Match})...)) {
				right++
			}
			return
		}
		for _, i := range choices(len(l), many) {
			grow(append(slices.Clone(l), i), many)
		}
	}
	grow(nil, 4)
	grow(nil, 5)
	if right < 3000 {
		t.Errorf("just %d may be", right)
	}
}

// grown are instructions of a node as chapter 12 has them, that begin at a place.
func grown(chance *rand.Rand, deep, at int) [][]int {
	kind := chance.Intn(9)
	if deep == 0 {
		kind %= 4
	}
	part := func(ahead int) [][]int { return grown(chance, deep-1, at+ahead) }
	switch kind {
	case 0:
		return nil
	case 1:
		return [][]int{{code.Set, chance.Intn(2)}}
	case 2:
		return [][]int{{code.Hold, 1 + chance.Intn(7)}}
	case 3:
		return [][]int{{code.Back, 1 + chance.Intn(2), chance.Intn(2)}}
	case 4:
		l := part(0)
		return append(l, part(len(l))...)
	case 5:
		a := part(1)
		b := part(len(a) + 3)
		way := at + len(a) + 2
		return slices.Concat([][]int{{code.Fork, way}}, a, [][]int{{code.Jump, way + 1 + len(b)}, {code.Way, -1, 0, 0, 0, 1}}, b)
	case 6:
		g := 1 + chance.Intn(2)
		return slices.Concat([][]int{{code.Open, g}}, part(1), [][]int{{code.Close, g}})
	case 7:
		x := chance.Intn(2)
		kid := part(5)
		end := at + 6 + len(kid)
		return slices.Concat([][]int{{code.Init, x}, {code.Loop, x, end, at + 4}, {code.Way, -1, 0, 0, 0, 2}, {code.Jump, end}, {code.Mark, x}}, kid, [][]int{{code.Next, x, at + 1}})
	}
	return barred(chance, at, part)
}

// barred are those of an atomic group, or a look.
func barred(chance *rand.Rand, at int, part func(int) [][]int) [][]int {
	switch chance.Intn(4) {
	case 0:
		return slices.Concat([][]int{{code.Into, -1}}, part(1), [][]int{{code.Cut}})
	case 1:
		return slices.Concat([][]int{{code.Into, -1}}, part(1), [][]int{{code.Peek}})
	case 2:
		return slices.Concat([][]int{{code.Into, -1}, {code.Retreat, 1, 2}}, part(2), [][]int{{code.Meet}, {code.Peek}})
	}
	kid := part(1)
	return slices.Concat([][]int{{code.Into, at + len(kid) + 2}}, kid, [][]int{{code.Refute}})
}

// Grown programs may be, and what they are when some of their numbers are others.
func TestRightGrown(t *testing.T) {
	chance := rand.New(rand.NewSource(111))
	right, wrong := 0, 0
	for range 3000 {
		p := some(append(grown(chance, 5, 0), []int{code.Match})...)
		holds(t, p, true)
		for range 20 {
			q := p
			q.Insts = slices.Clone(p.Insts)
			for range 1 + chance.Intn(2) {
				spoil(chance, q.Insts)
			}
			if alike(t, q) {
				right++
			} else {
				wrong++
			}
		}
	}
	if right < 3000 || wrong < 3000 {
		t.Errorf("%d may be, %d may not", right, wrong)
	}
}

// spoil changes one number of some instructions, or lets one of them go, or puts one twice.
func spoil(chance *rand.Rand, l []code.Inst) {
	at := chance.Intn(len(l))
	i := &l[at]
	x := chance.Intn(len(l)+2) - 1
	if chance.Intn(8) == 0 {
		x = numbers[chance.Intn(len(numbers))]
	}
	switch chance.Intn(8) {
	case 0:
		i.Op = chance.Intn(22) - 1
	case 1, 2, 3:
		i.X = x
	case 4:
		i.Y = x
	case 5:
		i.Z = x
	case 6:
		*i = l[chance.Intn(len(l))]
	default:
		*i = code.Inst{Op: []int{code.Cut, code.Peek, code.Meet, code.Refute, code.Into}[chance.Intn(5)]}
		if i.Op == code.Into {
			i.X = -1
		}
	}
}

// Any numbers at all.
func TestRightChance(t *testing.T) {
	chance := rand.New(rand.NewSource(112))
	x := func() int { return numbers[chance.Intn(len(numbers))] }
	for range 20000 {
		p := code.Program{Groups: x()}
		for range chance.Intn(6) {
			p.Insts = append(p.Insts, code.Inst{Op: chance.Intn(23) - 2, X: x(), Y: x(), Z: x(), Node: x(), Phase: x()})
		}
		for range chance.Intn(3) {
			p.Sets = append(p.Sets, []rset.Range{{Lo: x(), Hi: x()}})
			p.Loops = append(p.Loops, code.Count{Min: x(), Max: x(), Mode: x()})
		}
		alike(t, p)
		p.Insts = append(p.Insts, code.Inst{Op: code.Match})
		alike(t, p)
		p.Groups, p.Sets, p.Loops = 2, nil, nil
		alike(t, p)
	}
}

// Long programs end soon: each place is looked at once, however many ways there are to it.
func TestRightLong(t *testing.T) {
	const many = 1 << 17
	var ways, into, wrong [][]int
	for i := range many {
		ways = append(ways, []int{code.Fork, 2*i + 1}, []int{code.Way, -1})
		into = append(into, []int{code.Into, -1})
	}
	into = append(into, slices.Repeat([][]int{{code.Cut}}, many)...)
	wrong = append(slices.Clone(into), []int{code.Cut}, []int{code.Match})
	for _, l := range [][][]int{ways, into, slices.Repeat([][]int{{code.Set}}, many)} {
		if !some(append(l, []int{code.Match})...).Right() {
			t.Errorf("of %d", len(l))
		}
	}
	if some(wrong...).Right() {
		t.Error("a Cut too many")
	}
}

// P11.2.

// words are those of the Ops from 1 on.
const words = "set hold back fork way jump init loop mark next open close into retreat meet cut peek refute match"

func TestName(t *testing.T) {
	l := append([]string{""}, strings.Fields(words)...)
	for op := -300; op < 300; op++ {
		want := ""
		if op >= 0 && op < len(l) {
			want = l[op]
		}
		if s := code.Name(op); s != want {
			t.Errorf("Name(%d): %q", op, s)
		}
	}
	for _, op := range []int{math.MinInt, math.MinInt + 1, -1 << 32, 1<<32 + 1, 1 << 62, math.MaxInt} {
		if s := code.Name(op); s != "" {
			t.Errorf("Name(%d): %q", op, s)
		}
	}
}

// The Ops have their numbers, and their words are those of their own names.
func TestNameOfEach(t *testing.T) {
	for i, op := range []int{code.Set, code.Hold, code.Back, code.Fork, code.Way, code.Jump, code.Init, code.Loop, code.Mark, code.Next, code.Open, code.Close, code.Into, code.Retreat, code.Meet, code.Cut, code.Peek, code.Refute, code.Match} {
		if op != i+1 || code.Name(op) != strings.Fields(words)[i] {
			t.Errorf("%d: %d, %q", i+1, op, code.Name(op))
		}
	}
}

func TestLine(t *testing.T) {
	for want, i := range map[string]code.Inst{
		"jump 7 0 0 3 0":          {Op: code.Jump, X: 7, Node: 3},
		"match 0 0 0 0 0":         {Op: code.Match},
		"loop 0 7 4 1 0":          {Op: code.Loop, Y: 7, Z: 4, Node: 1},
		"way -1 0 0 4 2":          {Op: code.Way, X: -1, Node: 4, Phase: 2},
		"retreat 1 255 0 16384 0": {Op: code.Retreat, X: 1, Y: 255, Node: 1 << 14},
		"set 1 2 3 4 5":           {Op: code.Set, X: 1, Y: 2, Z: 3, Node: 4, Phase: 5},
		// Such as may not be in a program.
		"cut -1 -2 -3 -4 -5":        {Op: code.Cut, X: -1, Y: -2, Z: -3, Node: -4, Phase: -5},
		" 0 0 0 0 0":                {},
		" 1 2 3 4 5":                {Op: 20, X: 1, Y: 2, Z: 3, Node: 4, Phase: 5},
		" 10 100 1000 10000 100000": {Op: -1, X: 10, Y: 100, Z: 1000, Node: 10000, Phase: 100000},
		"into -9223372036854775808 9223372036854775807 -9223372036854775807 0 -10": {Op: code.Into, X: math.MinInt, Y: math.MaxInt, Z: -math.MaxInt, Phase: -10},
	} {
		if s := code.Line(i); s != want {
			t.Errorf("Line(%v): %q", i, s)
		}
	}
}

// The rules of memory: what is handed in is left as it is, its spare room too, and what is told hangs on it alone.
func TestArgumentsAreLeft(t *testing.T) {
	p := full()
	p.Insts = append(p.Insts, code.Inst{Op: -5})[:len(p.Insts)]
	p.Sets = append(p.Sets, []rset.Range{{Lo: -5, Hi: -5}})[:2]
	p.Sets[0] = append([]rset.Range{{Lo: 1, Hi: 2}, {Lo: 4, Hi: 5}}, rset.Range{Lo: -5, Hi: -5})[:2]
	p.Loops = append(p.Loops, code.Count{Mode: -5})[:2]
	for range 3 {
		if !p.Right() || (code.Program{}).Right() {
			t.Error("another answer")
		}
	}
	q := full()
	if !slices.Equal(p.Insts, q.Insts) || !slices.Equal(p.Loops, q.Loops) || p.Groups != q.Groups {
		t.Error("the program was changed")
	}
	if !slices.Equal(p.Sets[0], []rset.Range{{Lo: 1, Hi: 2}, {Lo: 4, Hi: 5}}) || len(p.Sets[1]) != 0 {
		t.Error("its sets were changed")
	}
	if p.Insts[:len(p.Insts)+1][len(p.Insts)].Op != -5 || p.Sets[:3][2][0].Lo != -5 || p.Sets[0][:3][2].Lo != -5 || p.Loops[:3][2].Mode != -5 {
		t.Error("spare room")
	}
	l := []rset.Range{{Lo: 4, Hi: 5}, {Lo: 1, Hi: 2}}
	p.Sets = [][]rset.Range{l}
	if p.Right() || l[0].Lo != 4 || l[1].Lo != 1 {
		t.Error("a wrong set")
	}
}
