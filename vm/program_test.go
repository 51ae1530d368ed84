package vm_test

import (
	"math"
	"math/rand"
	"slices"
	"testing"

	"clew/api"
	"clew/ast"
	"clew/code"
	"clew/comp"
	"clew/event"
	"clew/rset"
	"clew/vm"
	"clew/well"
)

// of is a program of instructions, each of which is its Op, X, Y, Z, Node and Phase, as far as they aren't noughts. Its sets are a and b; its loops are greedy from 0 on, lazy from 1 to 2, and just two turns.
func of(insts ...[]int) code.Program {
	p := code.Program{Groups: 2, Sets: [][]rset.Range{rset.Of('a'), rset.Of('b')}}
	p.Loops = []code.Count{{Max: -1}, {Min: 1, Max: 2, Mode: ast.Lazy}, {Min: 2, Max: 2}}
	for _, l := range insts {
		l = append(slices.Clone(l), make([]int, 6)...)
		p.Insts = append(p.Insts, code.Inst{Op: l[0], X: l[1], Y: l[2], Z: l[3], Node: l[4], Phase: l[5]})
	}
	return p
}

// Instructions that are much used here.
var (
	a     = []int{code.Set, 0}
	b     = []int{code.Set, 1}
	way   = []int{code.Way, -1}
	into  = []int{code.Into, -1}
	cut   = []int{code.Cut}
	peek  = []int{code.Peek}
	meet  = []int{code.Meet}
	never = []int{code.Refute}
	match = []int{code.Match}
)

// retreat is a Retreat by a length from one to another one, jump a Jump, next a Next of the loop of a number.
func retreat(from, to int) []int { return []int{code.Retreat, from, to} }
func jump(to int) []int          { return []int{code.Jump, to} }
func fork(to int) []int          { return []int{code.Fork, to} }
func next(x, to int) []int       { return []int{code.Next, x, to} }
func open(g int) []int           { return []int{code.Open, g} }
func shut(g int) []int           { return []int{code.Close, g} }
func again(g int) []int          { return []int{code.Back, g} }
func loop(x, y, z int) []int     { return []int{code.Loop, x, y, z} }

// P17.2: programs that no tree makes, row by row of the chapter's table.
var programs = []struct {
	p    code.Program
	s    string
	want string
}{
	{of(match), "", "begin0@0; match0@0 0=0-0"},
	{of(match), "a", "begin0@0; match0@0 0=0-0"},
	// A Way that isn't come to by an entry leaves nothing to wait.
	{of(way, match), "", "begin0@0; match0@0 0=0-0"},
	{of([]int{code.Way, 2}, a, way, b, match), "ab", "begin0@0; step0@1; step0@2; match0@2 0=0-2"},
	{of([]int{code.Way, 2}, a, way, match), "", "begin0@0; miss0@0; none0@0"},
	{of(fork(1), way, match), "", "begin0@0; fork0@0/1; match0@0/1 0=0-0"},
	// One that is does, and goes back to the same Fork: the place and the numbers are as they were there.
	{of(open(1), fork(6), a, shut(1), a, jump(12), []int{code.Way, 8, 0, 0, 3, 5}, b, []int{code.Way, 10, 0, 0, 4, 7}, b, []int{code.Way, -1, 0, 0, 5, 9}, a, shut(1), match), "ab", "begin0@0; open0@0; fork0@0/1; step0@1/1; close0@1/1 1=0-1; miss0@1/1 1=0-1; again3.5@0/1<2; miss0@0/1; again4.7@0/1<2; miss0@0/1; again5.9@0<2; step0@1; close0@1 1=0-1; match0@1 0=0-1 1=0-1"},
	// Several Forks may go to one Way.
	{of(fork(3), fork(3), b, way, a, match), "a", "begin0@0; fork0@0/1; fork0@0/2; miss0@0/2; again0@0/1<2; step0@1/1; match0@1/1 0=0-1"},
	{of(fork(3), fork(3), b, way, b, match), "a", "begin0@0; fork0@0/1; fork0@0/2; miss0@0/2; again0@0/1<2; miss0@0/1; again0@0<1; miss0@0; begin0@1; fork0@1/1; fork0@1/2; miss0@1/2; again0@1/1<10; miss0@1/1; again0@1<9; miss0@1; none0@1"},
	{of(jump(2), b, jump(4), b, match), "", "begin0@0; match0@0 0=0-0"},
	// Nodes are the instructions', and Phases of Agains alone.
	{of([]int{code.Set, 0, 0, 0, 9, 5}, []int{code.Hold, ast.Last, 0, 0, 1 << 14, 1 << 14}, []int{code.Match, 0, 0, 0, 8, 7}), "ba", "begin0@0; miss9@0; begin0@1; step9@2; held16384@2; match8@2 0=1-2"},
	{of([]int{code.Set, 1, 0, 0, 9, 5}, []int{code.Match, 0, 0, 0, 8, 7}), "", "begin0@0; miss9@0; none0@0"},
	{of([]int{code.Fork, 3, 0, 0, 2, 6}, []int{code.Hold, ast.Begin, 0, 0, 3, 5}, []int{code.Jump, 4, 0, 0, 4, 4}, []int{code.Way, -1, 0, 0, 5, 1 << 14}, []int{code.Back, 2, 0, 0, 6, 2}, match), "", "begin0@0; fork2@0/1; held3@0/1; miss6@0/1; again5.16384@0<1; miss6@0; none0@0"},
	{of([]int{code.Open, 2, 0, 0, 4, 9}, []int{code.Close, 2, 0, 0, 5, 9}, []int{code.Back, 2, 0, 0, 6, 9}, match), "", "begin0@0; open4@0; close5@0 2=0-0; step6@0 2=0-0; match0@0 0=0-0 2=0-0"},
	{of([]int{code.Into, -1, 0, 0, 4, 9}, []int{code.Into, -1, 0, 0, 5, 9}, []int{code.Cut, 0, 0, 0, 6, 9}, []int{code.Peek, 0, 0, 0, 7, 9}, []int{code.Into, 6, 0, 0, 8, 9}, []int{code.Refute, 0, 0, 0, 9, 9}, match), "", "begin0@0; into4@0/1; into5@0/2; out6@0/1<2; out7@0<1; into8@0/1; out9.1@0<5; none0@0"},
	{of([]int{code.Into, -1, 0, 0, 4, 9}, []int{code.Retreat, 1, 2, 0, 5, 9}, []int{code.Meet, 0, 0, 0, 6, 9}, cut, match), "aa", "begin0@0; into4@0/1; miss5@0/1; drop4@0<1; begin0@1; into4@1/1; fork5.2@0/1; miss6@0/1; drop4@1<5; begin0@2; into4@2/1; fork5.2@1/2; miss6@1/2; again5.3@0/1<11; miss6@0/1; drop4@2<10; none0@2"},
	// A loop whose Init, and whose Mark, isn't come to has no turns yet, and none that began.
	{of(loop(0, 5, 2), way, a, way, next(0, 0), match), "a", "begin0@0; fork0.1@0/1; step0@1/1; fork0.1@1/2; miss0@1/2; again0@1/1<3; miss0@1/1; again0@0<1; step0@1; fork0.1@1/1; miss0@1/1; again0@1<9; miss0@1; begin0@1; fork0.1@1/1; miss0@1/1; again0@1<14; miss0@1; none0@1"},
	{of(loop(1, 4, 2), []int{code.Way, -1, 0, 0, 0, 1}, a, next(1, 0), b, match), "aab", "begin0@0; turn0@0; step0@1; fork0.2@1/1; miss0@1/1; again0.1@1<3; step0@2; step0@3; match0@3 0=0-3"},
	{of(loop(2, 3, 2), way, next(2, 0), match), "", "begin0@0; turn0@0; turn0@0; match0@0 0=0-0"},
	// An Init alone begins anew: what is counted goes on till then.
	{of(loop(2, 3, 2), way, next(2, 0), loop(2, 6, 5), way, next(2, 3), match), "", "begin0@0; turn0@0; turn0@0; match0@0 0=0-0"},
	{of(loop(2, 3, 2), way, next(2, 0), []int{code.Init, 2}, loop(2, 7, 6), way, next(2, 4), match), "", "begin0@0; turn0@0; turn0@0; turn0@0; turn0@0; match0@0 0=0-0"},
	// More turns than the most aren't the most.
	{of(loop(2, 3, 2), way, next(2, 0), loop(0, 9, 5), way, loop(2, 8, 7), way, next(2, 5), next(0, 3), match), "", "begin0@0; turn0@0; turn0@0; fork0.1@0/1; fork0.1@0/2; fork0.1@0/3; fork0.1@0/4; fork0.1@0/5"},
	// The Way behind a Loop may let another one wait.
	{of(loop(0, 5, 5), []int{code.Way, 3, 0, 0, 0, 2}, b, way, a, b, match), "ab", "begin0@0; fork0.1@0/1; miss0@0/1; again0.2@0/1<1; miss0@0/1; again0@0<1; step0@1; step0@2; match0@2 0=0-2"},
	// The place where a turn began goes back to what it was.
	{of([]int{code.Init}, loop(0, 10, 4), way, jump(10), []int{code.Mark}, fork(8), a, jump(9), way, next(0, 1), match), "a", "begin0@0; fork0.1@0/1; fork0@0/2; step0@1/2; fork0.1@1/3; fork0@1/4; miss0@1/4; again0@1/3<5; miss0.3@1/3; again0@1/2<4; match0@1/2 0=0-1"},
	// Groups that are closed, but weren't opened, and those that are opened and closed several times.
	{of(a, shut(1), match), "a", "begin0@0; step0@1; close0@1 1=-1-1; match0@1 0=0-1 1=-1-1"},
	{of(a, shut(1), again(1), match), "aa", "begin0@0; step0@1; close0@1 1=-1-1; miss0@1 1=-1-1; begin0@1; step0@2; close0@2 1=-1-2; miss0@2 1=-1-2; begin0@2; miss0@2; none0@2"},
	{of(open(1), a, open(2), shut(1), b, shut(1), open(1), shut(2), match), "ab", "begin0@0; open0@0; step0@1; open0@1; close0@1 1=0-1; step0@2 1=0-1; close0@2 1=0-2; open0@2 1=0-2; close0@2 1=0-2 2=1-2; match0@2 0=0-2 1=0-2 2=1-2"},
	{of(open(1), again(1), match), "", "begin0@0; open0@0; miss0@0; none0@0"},
	// Where a group was opened goes back to what it was.
	{of(open(1), fork(5), a, open(1), b, way, a, shut(1), match), "aa", "begin0@0; open0@0; fork0@0/1; step0@1/1; open0@1/1; miss0@1/1; again0@0<2; step0@1; close0@1 1=0-1; match0@1 0=0-1 1=0-1"},
	// A group that ends ahead of where it begins has nothing that stands again.
	{of(into, a, open(1), retreat(1, 1), shut(1), cut, again(1), match), "aa", "begin0@0; into0@0/1; step0@1/1; open0@1/1; fork0.2@0/1; close0@0/1 1=1-0; out0@0<1 1=1-0; miss0@0 1=1-0; begin0@1; into0@1/1; step0@2/1; open0@2/1; fork0.2@1/1; close0@1/1 1=2-1; out0@1<9 1=2-1; miss0@1 1=2-1; begin0@2; into0@2/1; miss0@2/1; drop0@2<17; none0@2"},
	// A Retreat goes back from where it is come to, a Meet is where the barrier is.
	{of(into, a, retreat(0, 2), meet, cut, match), "aa", "begin0@0; into0@0/1; step0@1/1; fork0.1@1/2; miss0@1/2; again0.2@0/1<3; out0@0<1; match0@0 0=0-0"},
	{of(into, a, a, retreat(0, 9), meet, a, peek, match), "aa", "begin0@0; into0@0/1; step0@1/1; step0@2/1; fork0.1@2/2; miss0@2/2; again0.2@1/2<4; miss0@1/2; again0.3@0/1<4; step0@1/1; out0@0<1; match0@0 0=0-0"},
	{of(into, into, a, meet, cut, meet, peek, match), "a", "begin0@0; into0@0/1; into0@0/2; step0@1/2; miss0@1/2; drop0@0/1<2; drop0@0<1; begin0@1; into0@1/1; into0@1/2; miss0@1/2; drop0@1/1<9; drop0@1<8; none0@1"},
	// Retreats ahead of one another.
	{of(into, retreat(0, 1), retreat(1, 1), a, b, meet, cut, match), "ab", "begin0@0; into0@0/1; fork0.1@0/1; miss0@0/1; drop0@0<1; begin0@1; into0@1/1; fork0.1@1/2; fork0.2@0/2; step0@1/2; step0@2/2; miss0@2/2; again0.2@0/1<7; miss0@0/1; drop0@1<6; begin0@2; into0@2/1; fork0.1@2/2; fork0.2@1/2; miss0@1/2; again0.2@1/1<17; fork0.2@0/1; step0@1/1; step0@2/1; out0@2<16; match0@2 0=2-2"},
	// Barriers by their Into's X, however they are left.
	{of([]int{code.Into, 3}, a, cut, match), "b", "begin0@0; into0@0/1; miss0@0/1; drop0.1@0<1; match0@0 0=0-0"},
	{of([]int{code.Into, 3}, a, cut, match), "a", "begin0@0; into0@0/1; step0@1/1; out0@1<1; match0@1 0=0-1"},
	{of([]int{code.Into, 3}, a, peek, match), "a", "begin0@0; into0@0/1; step0@1/1; out0@0<1; match0@0 0=0-0"},
	{of(into, a, never, match), "ab", "begin0@0; into0@0/1; step0@1/1; out0.1@0<1; begin0@1; into0@1/1; miss0@1/1; drop0@1<5; begin0@2; into0@2/1; miss0@2/1; drop0@2<9; none0@2"},
	{of([]int{code.Into, 4}, a, cut, b, match), "a", "begin0@0; into0@0/1; step0@1/1; out0@1<1; miss0@1; begin0@1; into0@1/1; miss0@1/1; drop0.1@1<6; match0@1 0=1-1"},
	// The None is at the text's end, wherever the last attempt failed.
	{of(into, retreat(1, 1), cut, b, match), "a", "begin0@0; into0@0/1; miss0@0/1; drop0@0<1; begin0@1; into0@1/1; fork0.2@0/1; out0@0<5; miss0@0; none0@1"},
	// What a Refute lets be as it was: the place and the Caps; what waited ahead of it is next.
	{of(fork(7), open(1), a, []int{code.Into, 8}, shut(1), b, never, way, match), "ab", "begin0@0; fork0@0/1; open0@0/1; step0@1/1; into0@1/2; close0@1/2 1=0-1; step0@2/2 1=0-1; out0.1@1/1<4; again0@0<1; match0@0 0=0-0"},
	// A Cut cuts to the topmost barrier alone, wherever that lies.
	{of(into, fork(2), way, into, fork(5), way, fork(7), way, cut, b, cut, match), "", "begin0@0; into0@0/1; fork0@0/2; into0@0/3; fork0@0/4; fork0@0/5; out0@0/2<3; miss0@0/2; again0@0/1<2; into0@0/2; fork0@0/3; fork0@0/4; out0@0/1<9; miss0@0/1; drop0@0<1; none0@0"},
}

func TestPrograms(t *testing.T) {
	for k, c := range programs {
		l := all(machine(t, c.p, symbols(t, c.s), vm.Limits{Steps: 100, Stack: 5}))
		if told(l) != c.want {
			t.Errorf("%d: %s over %q:\n%s; want\n%s", k, lines(c.p), c.s, told(l), c.want)
		}
		may(t, l, 2)
	}
}

// runs holds a program to tell, over a text and with limits, what the model does.
func runs(t *testing.T, p code.Program, s string, limit vm.Limits) []event.State {
	t.Helper()
	x := symbols(t, s)
	want, stop, most := run(p, x, limit)
	m := machine(t, p, x, limit)
	l := all(m)
	if !same(l, want) {
		t.Fatalf("%s over %q, %v: %s; want %s", lines(p), s, limit, told(l), told(want))
	}
	may(t, l, p.Groups)
	ended(t, m, stop, len(want), most)
	return l
}

// The model, too, has the walks of trees.
func TestModel(t *testing.T) {
	for _, c := range kinds {
		l, stop, most := run(program(t, c[0]), symbols(t, c[1]), wide)
		if told(l) != c[2] || stop != vm.Done || most != deepest(l) {
			t.Errorf("%q over %q: %s, %d, %d", c[0], c[1], told(l), stop, most)
		}
	}
	for _, c := range programs {
		runs(t, c.p, c.s, vm.Limits{Steps: 100, Stack: 100})
	}
}

// spoil changes one number of some instructions, or puts one twice.
func spoil(chance *rand.Rand, l []code.Inst) {
	i := &l[chance.Intn(len(l))]
	x := chance.Intn(len(l)+2) - 1
	switch chance.Intn(8) {
	case 0:
		i.Op = 1 + chance.Intn(19)
	case 1, 2, 3:
		i.X = x
	case 4:
		i.Y = x
	case 5:
		i.Z = x
	case 6:
		*i = l[chance.Intn(len(l))]
	default:
		i.Node, i.Phase = chance.Intn(1<<14+1), chance.Intn(1<<14+1)
	}
}

// few are limits by chance, that are come to now and then.
func few(chance *rand.Rand, length int) vm.Limits {
	return vm.Limits{Steps: 1 + chance.Intn(80), Stack: chance.Intn(12), From: chance.Intn(length + 1)}
}

// P17.2: any program that may be, from trees' programs some of whose numbers are others.
func TestProgramsGrown(t *testing.T) {
	chance := rand.New(rand.NewSource(171))
	many, stops := 0, map[int]int{}
	for many < 40000 {
		x := grown(chance, chance.Intn(16))
		if e, _ := well.Check(x); e != api.OK {
			continue
		}
		p := comp.Compile(x)
		p.Groups = max(p.Groups, chance.Intn(3))
		for range 8 {
			q := p
			q.Insts = slices.Clone(p.Insts)
			for range 1 + chance.Intn(3) {
				spoil(chance, q.Insts)
			}
			if !q.Right() {
				continue
			}
			many++
			s := word(chance, 5)
			limit := few(chance, symbols(t, s).Len())
			runs(t, q, s, limit)
			m := machine(t, q, symbols(t, s), limit)
			all(m)
			stops[m.Stop()]++
		}
	}
	for _, stop := range []int{vm.Done, vm.Steps, vm.Stack} {
		if stops[stop] < 2000 {
			t.Errorf("stop %d: just %d", stop, stops[stop])
		}
	}
}

// ops are the instructions that may stand at a place of a short program of so many.
func ops(at, many int) [][]int {
	l := [][]int{a, way, into, cut, meet, never, retreat(0, 1), {code.Init, 2}, {code.Mark, 2}, open(1), shut(1)}
	for x := at + 1; x < many; x++ {
		l = append(l, fork(x), []int{code.Way, x}, jump(x), []int{code.Into, x}, loop(2, x, at+1), loop(0, x, at+1))
	}
	for x := range at {
		l = append(l, next(2, x), next(0, x))
	}
	return l
}

// All programs of up to five instructions that may be, of those whose numbers are few.
func TestProgramsShort(t *testing.T) {
	right := 0
	var grow func(l [][]int, many int)
	grow = func(l [][]int, many int) {
		if len(l) == many-1 {
			p := of(append(l, match)...)
			if !p.Right() {
				return
			}
			right++
			runs(t, p, "a", vm.Limits{Steps: 40, Stack: 1 + right%7})
			return
		}
		for _, i := range ops(len(l), many) {
			grow(append(slices.Clone(l), i), many)
		}
	}
	for many := range 5 {
		grow(nil, many+1)
	}
	if right < 8000 {
		t.Errorf("just %d may be", right)
	}
}

// P17.2: each state is told after finitely many instructions, also where many of them tell none.
func TestProgramsLong(t *testing.T) {
	const many = 1 << 17
	jumps := make([][]int, many)
	for x := range jumps {
		jumps[x] = jump(x + 1)
	}
	for _, l := range [][][]int{jumps, slices.Repeat([][]int{way}, many), slices.Repeat([][]int{{code.Init, 1}, {code.Mark}}, many/2)} {
		m := machine(t, of(append(l, match)...), symbols(t, "a"), wide)
		if x := told(all(m)); x != "begin0@0; match0@0 0=0-0" {
			t.Error(x)
		}
		ended(t, m, vm.Done, 2, 0)
	}
	m := machine(t, of(append(slices.Concat(slices.Repeat([][]int{into}, many/2), slices.Repeat([][]int{cut}, many/2)), match)...), symbols(t, ""), wide)
	all(m)
	ended(t, m, vm.Done, many+2, many/2)
	m = machine(t, of(append(slices.Concat(slices.Repeat([][]int{into}, many/2+1), slices.Repeat([][]int{cut}, many/2+1)), match)...), symbols(t, ""), wide)
	all(m)
	ended(t, m, vm.Stack, many/2+1, many/2)
}

// What is told shares no memory: not with what else is told, and not with the machine.
func TestAnswersAreNew(t *testing.T) {
	for _, c := range some {
		p, s := program(t, c[0]), symbols(t, c[1])
		want := all(machine(t, p, s, wide))
		m := machine(t, p, s, wide)
		var l []event.State
		for {
			x, ok := m.Next()
			if !ok {
				break
			}
			l = append(l, x.Own())
			spoiled := x.Caps[:cap(x.Caps)]
			for i := range spoiled {
				spoiled[i] = -7
			}
		}
		if !same(l, want) {
			t.Errorf("%q: %s; want %s", c[0], told(l), told(want))
		}
		ended(t, m, vm.Done, len(want), deepest(want))
	}
}

// What is handed in is left as it is, its spare room too.
func TestArgumentsAreLeft(t *testing.T) {
	p, q := program(t, "(a{1,2}|b)*?[bc]"), program(t, "(a{1,2}|b)*?[bc]")
	p.Insts = append(p.Insts, code.Inst{Op: -5})[:len(p.Insts)]
	p.Sets = append(p.Sets, []rset.Range{{Lo: -5, Hi: -5}})[:len(p.Sets)]
	for x, l := range p.Sets {
		p.Sets[x] = append(l, rset.Range{Lo: -5, Hi: -5})[:len(l)]
	}
	p.Loops = append(p.Loops, code.Count{Mode: -5})[:len(p.Loops)]
	all(machine(t, p, symbols(t, "aabc"), wide))
	if !slices.Equal(p.Insts, q.Insts) || !slices.EqualFunc(p.Sets, q.Sets, slices.Equal) || !slices.Equal(p.Loops, q.Loops) || p.Groups != q.Groups {
		t.Error("the program was changed")
	}
	if p.Insts[:len(p.Insts)+1][len(p.Insts)].Op != -5 || p.Sets[:len(p.Sets)+1][len(p.Sets)][0].Lo != -5 || p.Loops[:len(p.Loops)+1][len(p.Loops)].Mode != -5 {
		t.Error("spare room")
	}
	for x, l := range p.Sets {
		if l[:len(l)+1][len(l)].Lo != -5 {
			t.Errorf("spare room of the set %d", x)
		}
	}
}

// A machine goes on as it was made, whatever becomes of the program that it was made of.
func TestArgumentsAreNotKept(t *testing.T) {
	for _, c := range some {
		p, s := program(t, c[0]), symbols(t, c[1])
		want := all(machine(t, p, s, wide))
		m := machine(t, p, s, wide)
		m.Next()
		for _, l := range p.Sets {
			clear(l)
		}
		clear(p.Sets)
		clear(p.Insts)
		clear(p.Loops)
		if l := all(m); !same(l, want[1:]) {
			t.Errorf("%q: %s; want %s", c[0], told(l), told(want[1:]))
		}
	}
}

// One machine has no part in another one, be it of the same program and text.
func TestTwo(t *testing.T) {
	for _, c := range some {
		p, s := program(t, c[0]), symbols(t, c[1])
		want := all(machine(t, p, s, wide))
		m, n := machine(t, p, s, wide), machine(t, p, s, wide)
		for k := range want {
			if x, ok := m.Next(); !ok || !event.Same(x, want[k]) {
				t.Fatalf("%q, the first one: %s; want %s", c[0], line(x), line(want[k]))
			}
			if k%3 == 2 {
				for j := k - 2; j <= k; j++ {
					if x, ok := n.Next(); !ok || !event.Same(x, want[j]) {
						t.Fatalf("%q, the second one: %s; want %s", c[0], line(x), line(want[j]))
					}
				}
			}
		}
	}
}

// P1: any arguments at all: each call ends, and none panics.
func TestAny(t *testing.T) {
	chance := rand.New(rand.NewSource(172))
	odd := []int{math.MinInt, math.MinInt + 1, -1 << 32, -2, -1, 0, 1, 2, 3, 4, 7, 99, 100, 255, 256, 4096, 1 << 14, 1 << 16, 1<<20 + 1, 1 << 32, math.MaxInt - 1, math.MaxInt}
	x := func() int {
		if chance.Intn(2) == 0 {
			return chance.Intn(5) - 1
		}
		return odd[chance.Intn(len(odd))]
	}
	for range 40000 {
		p := code.Program{Groups: x()}
		for range chance.Intn(4) {
			p.Insts = append(p.Insts, code.Inst{Op: chance.Intn(23) - 2, X: x(), Y: x(), Z: x(), Node: x(), Phase: x()})
		}
		for range chance.Intn(3) {
			p.Sets = append(p.Sets, []rset.Range{{Lo: x(), Hi: x()}})
			p.Loops = append(p.Loops, code.Count{Min: x(), Max: x(), Mode: x()})
		}
		if chance.Intn(2) == 0 {
			p = of(a, match)
		}
		l := vm.Limits{Steps: x(), Stack: x(), From: x()}
		m, e := vm.New(p, symbols(t, "ab"), l)
		want := api.OK
		switch {
		case !p.Right():
			want = api.ErrCode
		case l.Steps < 0 || l.Steps > 1<<20 || l.Stack < 0 || l.Stack > 1<<16 || l.From < 0 || l.From > 2:
			want = api.ErrRange
		}
		if e != want || (m != nil) != (want == api.OK) {
			t.Fatalf("New(%s, %v): error %d, want %d", lines(p), l, e, want)
		}
		if m != nil {
			all(m)
		}
	}
}
