package vm_test

import (
	"iter"
	"math"
	"math/rand"
	"regexp"
	"slices"
	"strconv"
	"strings"
	"testing"

	"clew/api"
	"clew/ast"
	"clew/code"
	"clew/comp"
	"clew/event"
	"clew/rset"
	"clew/text"
	"clew/vm"
	"clew/well"
)

// tree is a well formed pattern's tree.
func tree(t *testing.T, p string) ast.Tree {
	t.Helper()
	x, e, at := well.Of([]byte(p))
	if e != api.OK {
		t.Fatalf("Of(%.80q): error %d at %d", p, e, at)
	}
	return x
}

// program is a well formed pattern's program.
func program(t *testing.T, p string) code.Program {
	t.Helper()
	return comp.Compile(tree(t, p))
}

// symbols is a text.
func symbols(t *testing.T, s string) text.Text {
	t.Helper()
	x, e := text.New([]byte(s))
	if e != api.OK {
		t.Fatalf("New(%.80q): error %d", s, e)
	}
	return x
}

// wide are limits that nothing here comes to.
var wide = vm.Limits{Steps: api.MaxSteps, Stack: api.MaxStack}

// from are wide limits from a place on.
func from(at int) vm.Limits { return vm.Limits{Steps: wide.Steps, Stack: wide.Stack, From: at} }

// machine is one that there may be.
func machine(t *testing.T, p code.Program, s text.Text, limit vm.Limits) *vm.Machine {
	t.Helper()
	m, e := vm.New(p, s, limit)
	if e != api.OK || m == nil {
		t.Fatalf("New(%s, %v): error %d", lines(p), limit, e)
	}
	return m
}

// lines are a program's instructions.
func lines(p code.Program) string {
	var l []string
	for _, i := range p.Insts {
		l = append(l, code.Line(i))
	}
	return strings.Join(l, "; ")
}

// all are the states that a machine tells, as far as it goes.
func all(m *vm.Machine) []event.State {
	var l []event.State
	for {
		s, ok := m.Next()
		if !ok {
			return l
		}
		l = append(l, s)
	}
}

// line is a state: its name, node and phase, its place and depth, which one it goes back to, and the spans that there are.
func line(s event.State) string {
	n := strconv.Itoa
	x := event.Name(s.Kind) + n(s.Node)
	if s.Phase != 0 {
		x += "." + n(s.Phase)
	}
	x += "@" + n(s.Pos)
	if s.Depth != 0 {
		x += "/" + n(s.Depth)
	}
	if s.Origin != -1 {
		x += "<" + n(s.Origin)
	}
	for g := range len(s.Caps) / 2 {
		if s.Caps[2*g] != -1 || s.Caps[2*g+1] != -1 {
			x += " " + n(g) + "=" + n(s.Caps[2*g]) + "-" + n(s.Caps[2*g+1])
		}
	}
	return x
}

// told are the lines of states.
func told(l []event.State) string {
	var x []string
	for _, s := range l {
		x = append(x, line(s))
	}
	return strings.Join(x, "; ")
}

// same tells whether two lists of states are the same.
func same(a, b []event.State) bool { return slices.EqualFunc(a, b, event.Same) }

// deepest is the greatest Depth of states.
func deepest(l []event.State) int {
	most := 0
	for _, s := range l {
		most = max(most, s.Depth)
	}
	return most
}

// ended holds a machine that has stopped to tell why, how many states it told, and how many entries waited, and to tell no state any more.
func ended(t *testing.T, m *vm.Machine, stop, count, most int) {
	t.Helper()
	for range 3 {
		if m.Stop() != stop || m.Count() != count || m.Most() != most {
			t.Fatalf("Stop %d, Count %d, Most %d; want %d, %d, %d", m.Stop(), m.Count(), m.Most(), stop, count, most)
		}
		if s, ok := m.Next(); ok || !event.Same(s, event.State{}) {
			t.Fatalf("%s, %t, of a machine that has stopped", line(s), ok)
		}
	}
}

// may holds each state to be one that may be, and to go back to one ahead of it, if to any.
func may(t *testing.T, l []event.State, groups int) {
	t.Helper()
	for k, s := range l {
		if !s.Right(groups) || s.Origin >= k || (s.Origin >= 0) != (s.Kind == event.Again || s.Kind == event.Out || s.Kind == event.Drop) {
			t.Fatalf("%d: %s: may not be", k, line(s))
		}
	}
}

// walks holds the machine of a tree's program to tell the tree's walk over a text, from a place on.
func walks(t *testing.T, x ast.Tree, p code.Program, s text.Text, at int) []event.State {
	t.Helper()
	const most = 3000
	want, whole := walk(x, s, at, most)
	m := machine(t, p, s, vm.Limits{Steps: most, Stack: api.MaxStack, From: at})
	l := all(m)
	if !same(l, want) {
		t.Fatalf("%s over %q from %d: %s; want %s", lines(p), s.Part(0, s.Len()), at, told(l), told(want))
	}
	may(t, l, x.Groups)
	stop := vm.Done
	if !whole {
		stop = vm.Steps
	}
	ended(t, m, stop, len(want), deepest(want))
	return l
}

// P17.1: new machines.

func TestNew(t *testing.T) {
	p, s := program(t, "(a|b)*?c"), symbols(t, "abc")
	for _, steps := range []int{0, 1, 2, 1<<20 - 1, 1 << 20} {
		for _, stack := range []int{0, 1, 2, 1<<16 - 1, 1 << 16} {
			for at := range 4 {
				m := machine(t, p, s, vm.Limits{Steps: steps, Stack: stack, From: at})
				if m.Stop() != vm.Running || m.Count() != 0 || m.Most() != 0 {
					t.Errorf("%d, %d, %d: Stop %d, Count %d, Most %d", steps, stack, at, m.Stop(), m.Count(), m.Most())
				}
			}
		}
	}
}

// beyond are numbers that aren't from 0 to n, some of which would be if they were cut to fewer bits, or had no sign.
func beyond(n int) []int {
	return []int{math.MinInt, math.MinInt + 1, -1 << 32, -1<<32 + 1, -n - 1, -2, -1, n + 1, n + 2, 1<<31 + n, 1 << 32, 1<<32 + n, math.MaxInt - 1, math.MaxInt}
}

func TestNewRange(t *testing.T) {
	wrong := func(p code.Program, s text.Text, l vm.Limits) {
		t.Helper()
		if m, e := vm.New(p, s, l); e != api.ErrRange || m != nil {
			t.Errorf("New of %v: error %d", l, e)
		}
	}
	p := program(t, "a*")
	for _, text := range []string{"", "a", "\u00e9\xff\u212a"} {
		s := symbols(t, text)
		for _, x := range beyond(api.MaxSteps) {
			wrong(p, s, vm.Limits{Steps: x})
			wrong(p, s, vm.Limits{Steps: x, Stack: -1, From: -1})
		}
		for _, x := range beyond(api.MaxStack) {
			wrong(p, s, vm.Limits{Stack: x})
			wrong(p, s, vm.Limits{Steps: 1, Stack: x, From: s.Len()})
		}
		// A place is one of symbols, not of bytes.
		for _, x := range beyond(s.Len()) {
			wrong(p, s, vm.Limits{From: x})
			wrong(p, s, vm.Limits{Steps: api.MaxSteps, Stack: api.MaxStack, From: x})
		}
		machine(t, p, s, vm.Limits{From: s.Len()})
	}
}

// wrong are programs that may not be.
func wrong() []code.Program {
	match := code.Inst{Op: code.Match}
	var l []code.Program
	for _, insts := range [][]code.Inst{
		nil,
		{{Op: code.Jump, X: 1}},
		{match, match},
		{{Op: code.Set}, match},
		{{Op: code.Jump}, match},
		{{Op: code.Fork, X: 1}, match},
		{{Op: code.Cut}, match},
		{{Op: code.Meet}, match},
		{{Op: code.Into, X: -1}, match},
		{{Op: code.Into, X: 9}, {Op: code.Cut}, match},
		{{Op: code.Loop, Y: 2, Z: 2}, {Op: code.Way, X: -1}, match},
		{{Op: code.Open, X: 1}, match},
		{{Op: 20}, match},
		{{}, match},
		{{Op: code.Match, Node: -1}},
		{{Op: code.Match, Phase: 1<<14 + 1}},
	} {
		l = append(l, code.Program{Insts: insts})
	}
	insts := []code.Inst{match}
	return append(l,
		code.Program{Insts: insts, Groups: -1},
		code.Program{Insts: insts, Groups: api.MaxGroups + 1},
		code.Program{Insts: insts, Groups: math.MaxInt},
		code.Program{Insts: insts, Sets: [][]rset.Range{{{Lo: 2, Hi: 1}}}},
		code.Program{Insts: insts, Loops: []code.Count{{Min: 2, Max: 1}}},
		code.Program{Insts: insts, Loops: make([]code.Count, 1)},
		code.Program{Insts: insts, Loops: slices.Repeat([]code.Count{{Max: -1}}, api.MaxPattern+1)},
	)
}

// A program that may not be comes ahead of all other errors.
func TestNewCode(t *testing.T) {
	for _, p := range wrong() {
		for _, l := range []vm.Limits{{}, wide, {Steps: -1}, {Stack: -1}, {From: -1}, {Steps: math.MaxInt, Stack: math.MaxInt, From: math.MaxInt}} {
			if m, e := vm.New(p, symbols(t, "ab"), l); e != api.ErrCode || m != nil {
				t.Errorf("New(%s, %v): error %d", lines(p), l, e)
			}
		}
	}
}

// As many groups, and as many loops, as there may be.
func TestNewMost(t *testing.T) {
	p := code.Program{Groups: api.MaxGroups, Loops: slices.Repeat([]code.Count{{Max: -1}}, api.MaxPattern)}
	last := api.MaxPattern - 1
	p.Sets = [][]rset.Range{rset.Of('a')}
	p.Insts = []code.Inst{{Op: code.Init, X: last}, {Op: code.Loop, X: last, Y: 8, Z: 3}, {Op: code.Way, X: -1, Phase: 2}, {Op: code.Mark, X: last}, {Op: code.Open, X: 99}, {Op: code.Set}, {Op: code.Close, X: 99}, {Op: code.Next, X: last, Y: 1}, {Op: code.Match}}
	// The Way goes on into a turn.
	l := all(machine(t, p, symbols(t, "a"), wide))
	if want := "begin0@0; fork0.1@0/1; open0@0/1; step0@1/1; close0@1/1 99=0-1; fork0.1@1/2 99=0-1; open0@1/2 99=0-1; miss0@1/2 99=0-1; again0.2@1/1<5 99=0-1; open0@1/1 99=0-1; miss0@1/1 99=0-1; again0.2@0<1; open0@0; step0@1; close0@1 99=0-1; fork0.1@1/1 99=0-1; open0@1/1 99=0-1; miss0@1/1 99=0-1; again0.2@1<15 99=0-1; open0@1 99=0-1; miss0@1 99=0-1; begin0@1; fork0.1@1/1; open0@1/1; miss0@1/1; again0.2@1<22; open0@1; miss0@1; none0@1"; told(l) != want {
		t.Error(told(l))
	}
	may(t, l, api.MaxGroups)
}

// P17.3: each kind of node.

// kinds are patterns, texts, and the walks of the ones over the others.
var kinds = [][3]string{
	{"", "", "begin0@0; match0@0 0=0-0"},
	{"", "ab", "begin0@0; match0@0 0=0-0"},
	// The chapter's example.
	{"a", "ba", "begin0@0; miss0@0; begin0@1; step0@2; match0@2 0=1-2"},
	{"a", "", "begin0@0; miss0@0; none0@0"},
	{"a", "bc", "begin0@0; miss0@0; begin0@1; miss0@1; begin0@2; miss0@2; none0@2"},
	{".", "\xff", "begin0@0; step0@1; match0@1 0=0-1"},
	{"(?i)k", "\u212a", "begin0@0; step0@1; match0@1 0=0-1"},
	{"ab", "ab", "begin0@0; step1@1; step2@2; match0@2 0=0-2"},
	{"ab", "aab", "begin0@0; step1@1; miss2@1; begin0@1; step1@2; step2@3; match0@3 0=1-3"},
	{"^a$", "a", "begin0@0; held1@0; step2@1; held3@1; match0@1 0=0-1"},
	{`\ba`, " a", "begin0@0; miss1@0; begin0@1; held1@1; step2@2; match0@2 0=1-2"},
	// Groups, and what they had.
	{"(a)", "a", "begin0@0; open0@0; step1@1; close0@1 1=0-1; match0@1 0=0-1 1=0-1"},
	{"(a(b))", "ab", "begin0@0; open0@0; step2@1; open3@1; step4@2; close3@2 2=1-2; close0@2 1=0-2 2=1-2; match0@2 0=0-2 1=0-2 2=1-2"},
	{"()b", "ab", "begin0@0; open1@0; close1@0 1=0-0; miss3@0 1=0-0; begin0@1; open1@1; close1@1 1=1-1; step3@2 1=1-1; match0@2 0=1-2 1=1-1"},
	{`(..)\1`, "abab", "begin0@0; open1@0; step3@1; step4@2; close1@2 1=0-2; step5@4 1=0-2; match0@4 0=0-4 1=0-2"},
	{`(a)\1`, "aA", "begin0@0; open1@0; step2@1; close1@1 1=0-1; miss3@1 1=0-1; begin0@1; open1@1; miss2@1; begin0@2; open1@2; miss2@2; none0@2"},
	{`(a)(?i:\1)`, "aA", "begin0@0; open1@0; step2@1; close1@1 1=0-1; step3@2 1=0-1; match0@2 0=0-2 1=0-1"},
	{`()\1`, "", "begin0@0; open1@0; close1@0 1=0-0; step3@0 1=0-0; match0@0 0=0-0 1=0-0"},
	// A group within which it is met has no span yet, or that of the turn ahead.
	{`\1(a)`, "a", "begin0@0; miss1@0; begin0@1; miss1@1; none0@1"},
	{`(a\1)`, "aa", "begin0@0; open0@0; step2@1; miss3@1; begin0@1; open0@1; step2@2; miss3@2; begin0@2; open0@2; miss2@2; none0@2"},
	{`(?:\1b|(a))+`, "aab", "begin0@0; turn0@0; fork1@0/1; miss3@0/1; again1.1@0<2; open5@0; step6@1; close5@1 1=0-1; fork0.1@1/1 1=0-1; fork1@1/2 1=0-1; step3@2/2 1=0-1; step4@3/2 1=0-1; fork0.1@3/3 1=0-1; fork1@3/4 1=0-1; miss3@3/4 1=0-1; again1.1@3/3<13 1=0-1; open5@3/3 1=0-1; miss6@3/3 1=0-1; again0.2@3/2<12 1=0-1; match0@3/2 0=0-3 1=0-1"},
	// One of several.
	{"a|b", "b", "begin0@0; fork0@0/1; miss1@0/1; again0.1@0<1; step2@1; match0@1 0=0-1"},
	{"a|b", "a", "begin0@0; fork0@0/1; step1@1/1; match0@1/1 0=0-1"},
	{"|", "", "begin0@0; fork0@0/1; match0@0/1 0=0-0"},
	{"a|b|c", "c", "begin0@0; fork0@0/1; miss1@0/1; again0.1@0/1<1; miss2@0/1; again0.2@0<1; step3@1; match0@1 0=0-1"},
	{"(?:a|ab|b)c", "abc", "begin0@0; fork1@0/1; step2@1/1; miss7@1/1; again1.1@0/1<1; step4@1/1; step5@2/1; step7@3/1; match0@3/1 0=0-3"},
	{"(?:(a)|b)c", "ab", "begin0@0; fork1@0/1; open2@0/1; step3@1/1; close2@1/1 1=0-1; miss5@1/1 1=0-1; again1.1@0<1; miss4@0; begin0@1; fork1@1/1; open2@1/1; miss3@1/1; again1.1@1<9; step4@2; miss5@2; begin0@2; fork1@2/1; open2@2/1; miss3@2/1; again1.1@2<16; miss4@2; none0@2"},
	// Repeats.
	{"a*", "aa", "begin0@0; fork0.1@0/1; step1@1/1; fork0.1@1/2; step1@2/2; fork0.1@2/3; miss1@2/3; again0.2@2/2<5; match0@2/2 0=0-2"},
	{"a+", "a", "begin0@0; turn0@0; step1@1; fork0.1@1/1; miss1@1/1; again0.2@1<3; match0@1 0=0-1"},
	{"a?", "a", "begin0@0; fork0.1@0/1; step1@1/1; match0@1/1 0=0-1"},
	{"a?a", "a", "begin0@0; fork1.1@0/1; step2@1/1; miss3@1/1; again1.2@0<1; step3@1; match0@1 0=0-1"},
	{"a{2}", "aaa", "begin0@0; turn0@0; step1@1; turn0@1; step1@2; match0@2 0=0-2"},
	{"a{1,2}b", "ab", "begin0@0; turn1@0; step2@1; fork1.1@1/1; miss2@1/1; again1.2@1<3; step3@2; match0@2 0=0-2"},
	{"a*?b", "aab", "begin0@0; fork1.2@0/1; miss3@0/1; again1.1@0<1; step2@1; fork1.2@1/1; miss3@1/1; again1.1@1<5; step2@2; fork1.2@2/1; step3@3/1; match0@3/1 0=0-3"},
	{"a{1,2}?b", "aac", "begin0@0; turn1@0; step2@1; fork1.2@1/1; miss3@1/1; again1.1@1<3; step2@2; miss3@2; begin0@1; turn1@1; step2@2; fork1.2@2/1; miss3@2/1; again1.1@2<11; miss2@2; begin0@2; turn1@2; miss2@2; begin0@3; turn1@3; miss2@3; none0@3"},
	// A turn that takes nothing is given up, but where there have to be so many.
	{"(?:)*", "a", "begin0@0; fork0.1@0/1; miss0.3@0/1; again0.2@0<1; match0@0 0=0-0"},
	{"(?:)*?", "", "begin0@0; fork0.2@0/1; match0@0/1 0=0-0"},
	{"(?:)*?a", "b", "begin0@0; fork1.2@0/1; miss3@0/1; again1.1@0<1; miss1.3@0; begin0@1; fork1.2@1/1; miss3@1/1; again1.1@1<6; miss1.3@1; none0@1"},
	{"(?:){2}", "", "begin0@0; turn0@0; turn0@0; match0@0 0=0-0"},
	{"(?:){1,3}", "", "begin0@0; turn0@0; fork0.1@0/1; miss0.3@0/1; again0.2@0<2; match0@0 0=0-0"},
	{"(a*)*", "a", "begin0@0; fork0.1@0/1; open1@0/1; fork2.1@0/2; step3@1/2; fork2.1@1/3; miss3@1/3; again2.2@1/2<5; close1@1/2 1=0-1; fork0.1@1/3 1=0-1; open1@1/3 1=0-1; fork2.1@1/4 1=0-1; miss3@1/4 1=0-1; again2.2@1/3<11 1=0-1; close1@1/3 1=1-1; miss0.3@1/3 1=1-1; again0.2@1/2<9 1=0-1; match0@1/2 0=0-1 1=0-1"},
	// A loop within another one begins anew, and goes back to how it was.
	{"(?:a{2}b?){2}", "aaaa", "begin0@0; turn0@0; turn2@0; step3@1; turn2@1; step3@2; fork4.1@2/1; miss5@2/1; again4.2@2<6; turn0@2; turn2@2; step3@3; turn2@3; step3@4; fork4.1@4/1; miss5@4/1; again4.2@4<14; match0@4 0=0-4"},
	{"(?:a{1,2}){2}b", "aab", "begin0@0; turn1@0; turn2@0; step3@1; fork2.1@1/1; step3@2/1; turn1@2/1; turn2@2/1; miss3@2/1; again2.2@1<4; turn1@1; turn2@1; step3@2; fork2.1@2/1; miss3@2/1; again2.2@2<13; step4@3; match0@3 0=0-3"},
	// Once and for all.
	{"(?>a)", "a", "begin0@0; into0@0/1; step1@1/1; out0@1<1; match0@1 0=0-1"},
	{"(?>a)", "b", "begin0@0; into0@0/1; miss1@0/1; drop0@0<1; begin0@1; into0@1/1; miss1@1/1; drop0@1<5; none0@1"},
	{"(?>)", "", "begin0@0; into0@0/1; out0@0<1; match0@0 0=0-0"},
	{"(?>(a)|ab)c", "abc", "begin0@0; into1@0/1; fork2@0/2; open3@0/2; step4@1/2; close3@1/2 1=0-1; out1@1<1 1=0-1; miss8@1 1=0-1; begin0@1; into1@1/1; fork2@1/2; open3@1/2; miss4@1/2; again2.1@1/1<10; miss6@1/1; drop1@1<9; begin0@2; into1@2/1; fork2@2/2; open3@2/2; miss4@2/2; again2.1@2/1<18; miss6@2/1; drop1@2<17; begin0@3; into1@3/1; fork2@3/2; open3@3/2; miss4@3/2; again2.1@3/1<26; miss6@3/1; drop1@3<25; none0@3"},
	{"a++b", "ab", "begin0@0; into1@0/1; turn2@0/1; step3@1/1; fork2.1@1/2; miss3@1/2; again2.2@1/1<4; out1@1<1; step4@2; match0@2 0=0-2"},
	// What waits ahead of it waits further.
	{"(?:a|)(?>b)", "ab", "begin0@0; fork1@0/1; step2@1/1; into4@1/2; step5@2/2; out4@2/1<3; match0@2/1 0=0-2"},
	{"(?:a|)(?>a)", "a", "begin0@0; fork1@0/1; step2@1/1; into4@1/2; miss5@1/2; drop4@1/1<3; again1.1@0<1; into4@0/1; step5@1/1; out4@1<7; match0@1 0=0-1"},
	{"(?>a(?>b|c))", "ac", "begin0@0; into0@0/1; step2@1/1; into3@1/2; fork4@1/3; miss5@1/3; again4.1@1/2<4; step6@2/2; out3@2/1<3; out0@2<1; match0@2 0=0-2"},
	// Looks.
	{"(?=a)", "a", "begin0@0; into0@0/1; step1@1/1; out0@0<1; match0@0 0=0-0"},
	{"(?=a)", "", "begin0@0; into0@0/1; miss1@0/1; drop0@0<1; none0@0"},
	{`(?=(a|ab))\1c`, "abc", "begin0@0; into1@0/1; open2@0/1; fork3@0/2; step4@1/2; close2@1/2 1=0-1; out1@0<1 1=0-1; step8@1 1=0-1; miss9@1 1=0-1; begin0@1; into1@1/1; open2@1/1; fork3@1/2; miss4@1/2; again3.1@1/1<12; miss6@1/1; drop1@1<10; begin0@2; into1@2/1; open2@2/1; fork3@2/2; miss4@2/2; again3.1@2/1<20; miss6@2/1; drop1@2<18; begin0@3; into1@3/1; open2@3/1; fork3@3/2; miss4@3/2; again3.1@3/1<28; miss6@3/1; drop1@3<26; none0@3"},
	{"(?!a)", "a", "begin0@0; into0@0/1; step1@1/1; out0.1@0<1; begin0@1; into0@1/1; miss1@1/1; drop0.1@1<5; match0@1 0=1-1"},
	{"(?!(a)|b)", "a", "begin0@0; into0@0/1; fork1@0/2; open2@0/2; step3@1/2; close2@1/2 1=0-1; out0.1@0<1; begin0@1; into0@1/1; fork1@1/2; open2@1/2; miss3@1/2; again1.1@1/1<9; miss4@1/1; drop0.1@1<8; match0@1 0=1-1"},
	{"(?:(a)|)(?!b)", "ab", "begin0@0; fork1@0/1; open2@0/1; step3@1/1; close2@1/1 1=0-1; into5@1/2 1=0-1; step6@2/2 1=0-1; out5.1@1/1<5 1=0-1; again1.1@0<1; into5@0/1; miss6@0/1; drop5.1@0<9; match0@0 0=0-0"},
	{"a(?!(?!b))", "ab", "begin0@0; step1@1; into2@1/1; into3@1/2; step4@2/2; out3.1@1/1<3; drop2.1@1<2; match0@1 0=0-1"},
	// Looks behind.
	{"(?<=a)b", "ab", "begin0@0; into1@0/1; miss1@0/1; drop1@0<1; begin0@1; into1@1/1; fork1.2@0/1; step2@1/1; out1@1<5; step3@2; match0@2 0=1-2"},
	{"(?<!a)b", "abb", "begin0@0; into1@0/1; miss1@0/1; drop1.1@0<1; miss3@0; begin0@1; into1@1/1; fork1.2@0/1; step2@1/1; out1.1@1<6; begin0@2; into1@2/1; fork1.2@1/1; miss2@1/1; drop1.1@2<11; step3@3; match0@3 0=2-3"},
	{"(?<=)", "", "begin0@0; into0@0/1; fork0.1@0/1; out0@0<1; match0@0 0=0-0"},
	{"(?<!)", "", "begin0@0; into0@0/1; fork0.1@0/1; out0.1@0<1; none0@0"},
	{"(?<=a?)", "b", "begin0@0; into0@0/1; fork0.1@0/1; fork1.1@0/2; miss2@0/2; again1.2@0/1<3; out0@0<1; match0@0 0=0-0"},
	{"^..(?<=a|aa|bab)", "aab", "begin0@0; held1@0; step2@1; step3@2; into4@2/1; fork4.2@1/2; fork5@1/3; step6@2/3; out4@2<4; match0@2 0=0-2"},
	{"^..(?<=b|ba|aac)", "aac", "begin0@0; held1@0; step2@1; step3@2; into4@2/1; fork4.2@1/2; fork5@1/3; miss6@1/3; again5.1@1/3<6; miss8@1/3; again5.2@1/2<6; step11@2/2; miss12@2/2; again4.3@0/1<5; fork5@0/2; miss6@0/2; again5.1@0/2<14; miss8@0/2; again5.2@0/1<14; step11@1/1; step12@2/1; step13@3/1; miss4@3/1; drop4@2<4; begin0@1; miss1@1; begin0@2; miss1@2; begin0@3; miss1@3; none0@3"},
	{"ab(?<=(.{0,2}))", "ab", "begin0@0; step1@1; step2@2; into3@2/1; fork3.1@2/2; open4@2/2; fork5.1@2/3; miss6@2/3; again5.2@2/2<6; close4@2/2 1=2-2; out3@2<3 1=2-2; match0@2 0=0-2 1=2-2"},
	// A kid that ends elsewhere than where the look stands.
	{"a(?<=a?)b", "ab", "begin0@0; step1@1; into2@1/1; fork2.1@1/2; fork3.1@1/3; miss4@1/3; again3.2@1/2<4; out2@1<2; step5@2; match0@2 0=0-2"},
	{"a(?<=a??)$", "a", "begin0@0; step1@1; into2@1/1; fork2.1@1/2; fork3.2@1/3; out2@1<2; held5@1; match0@1 0=0-1"},
	{"a(?<=^a??)$", "a", "begin0@0; step1@1; into2@1/1; fork2.1@1/2; miss4@1/2; again2.2@0/1<3; held4@0/1; fork5.2@0/2; miss2@0/2; again5.1@0/1<7; step6@1/1; out2@1<2; held7@1; match0@1 0=0-1"},
	// Looks behind, within one another.
	{"ab(?<=a(?<!b)b)", "ab", "begin0@0; step1@1; step2@2; into3@2/1; fork3.3@0/1; step5@1/1; into6@1/2; fork6.2@0/2; miss7@0/2; drop6.1@1/1<6; step8@2/1; out3@2<3; match0@2 0=0-2"},
}

func TestWalkKinds(t *testing.T) {
	for _, c := range kinds {
		x, s := tree(t, c[0]), symbols(t, c[1])
		l := walks(t, x, comp.Compile(x), s, 0)
		if told(l) != c[2] {
			t.Errorf("%q over %q:\n%s; want\n%s", c[0], c[1], told(l), c[2])
		}
		// Each state's Start is the place of the Begin ahead of it.
		start := 0
		for _, s := range l {
			if s.Kind == event.Begin {
				start = s.Pos
			}
			if s.Start != start {
				t.Errorf("%q over %q: %s: Start %d", c[0], c[1], line(s), s.Start)
			}
		}
	}
}

// The examples of the whole that are about a walk.
func TestExamples(t *testing.T) {
	for _, c := range []struct {
		p, s string
		caps []int
		most int
	}{
		{"(a|ab)(c|bcd)", "xabcd", []int{1, 5, 1, 2, 2, 5}, 2},
		{"a*b", "aac", []int{-1, -1}, 3},
		{"(?>a|ab)c", "abc", []int{-1, -1}, 2},
		{"(a*)*", "aa", []int{0, 2, 0, 2}, 5},
		{"(?<!a)b", "abb", []int{2, 3}, 1},
		{"(?i)k", "x\u212a", []int{1, 2}, 0},
	} {
		m := machine(t, program(t, c.p), symbols(t, c.s), wide)
		l := all(m)
		if last := l[len(l)-1]; !slices.Equal(last.Caps, c.caps) || m.Most() != c.most || m.Stop() != vm.Done {
			t.Errorf("%q over %q: %s, Most %d, Stop %d", c.p, c.s, line(last), m.Most(), m.Stop())
		}
	}
}

// P17.3: from each place on.

func TestWalkFrom(t *testing.T) {
	p, s := program(t, "(a)?b"), symbols(t, "ab")
	for at, want := range []string{
		"begin0@0; fork1.1@0/1; open2@0/1; step3@1/1; close2@1/1 1=0-1; step4@2/1 1=0-1; match0@2/1 0=0-2 1=0-1",
		"begin0@1; fork1.1@1/1; open2@1/1; miss3@1/1; again1.2@1<1; step4@2; match0@2 0=1-2",
		"begin0@2; fork1.1@2/1; open2@2/1; miss3@2/1; again1.2@2<1; miss4@2; none0@2",
	} {
		l := all(machine(t, p, s, from(at)))
		if told(l) != want || l[0].Start != at {
			t.Errorf("from %d: %s", at, told(l))
		}
	}
	// What is ahead of the first attempt is there all the same.
	for at, want := range []string{"begin0@0; into1@0/1; miss1@0/1; drop1@0<1; begin0@1; into1@1/1; fork1.2@0/1; step2@1/1; out1@1<5; step3@2; match0@2 0=1-2", "begin0@1; into1@1/1; fork1.2@0/1; step2@1/1; out1@1<1; step3@2; match0@2 0=1-2"} {
		if l := all(machine(t, program(t, "(?<=a)b"), s, from(at))); told(l) != want {
			t.Errorf("from %d: %s", at, told(l))
		}
	}
	if l := all(machine(t, program(t, "^"), s, from(1))); told(l) != "begin0@1; miss0@1; begin0@2; miss0@2; none0@2" {
		t.Error(told(l))
	}
}

// P17.3, over many trees.

// texts are all that are made of up to so many of some pieces.
func texts(pieces []string, most int) iter.Seq[string] {
	return func(yield func(string) bool) {
		var more func(p string, left int) bool
		more = func(p string, left int) bool {
			if !yield(p) {
				return false
			}
			for _, x := range pieces {
				if left > 0 && !more(p+x, left-1) {
					return false
				}
			}
			return true
		}
		more("", most)
	}
}

func TestWalkTexts(t *testing.T) {
	var over []text.Text
	for s := range texts([]string{"a", "b"}, 3) {
		over = append(over, symbols(t, s))
	}
	over = append(over, symbols(t, "A\nba"), symbols(t, "aabba"))
	many := 0
	for _, pieces := range [][]string{
		{"a", "b", "|", "(", "(?>", ")", "*", "+?", "^"},
		{"a", "{2}?", "?", "(?=", "(?!", "(?<=", "(?<!", ")", "|"},
		{"a++", "(?<n>", ")", `\1`, "(?i)", "|", "$", "{0,2}?", "."},
		{"(?:a|b)", "(b*)", "(?:a?)*", "*?", `\1`, "{1,2}", "(?<=b|ab)", "(?!.b)"},
	} {
		for p := range texts(pieces, 4) {
			x, e, _ := well.Of([]byte(p))
			if e != api.OK {
				continue
			}
			many++
			q := comp.Compile(x)
			for _, s := range over {
				walks(t, x, q, s, many%(s.Len()+1))
			}
		}
	}
	if many < 4000 {
		t.Errorf("just %d are well formed", many)
	}
}

// sets are least lists of ranges.
var sets = [][]rset.Range{nil, {{Lo: 'a', Hi: 'a'}}, {{Lo: 'b', Hi: 'b'}}, {{Lo: 'a', Hi: 'b'}}, {{Lo: 0, Hi: api.MaxSym}}, {{Lo: 'A', Hi: 'A'}, {Lo: 'a', Hi: 'a'}}}

// counts are the least and the greatest number of a repeat's turns.
var counts = [][2]int{{0, -1}, {0, 1}, {1, -1}, {2, 2}, {0, 3}, {1, 2}, {1, 1}, {3, -1}}

// grown is a right tree by chance, that no pattern may make, and that has about as many nodes as are wanted.
func grown(chance *rand.Rand, many int) ast.Tree {
	x := ast.Tree{Names: []string{""}}
	var grow func(many int) int
	grow = func(many int) int {
		at := len(x.Nodes)
		n := ast.Node{Kind: ast.Cat + chance.Intn(6)}
		if many <= 1 {
			n.Kind = []int{ast.Empty, ast.Set, ast.Set, ast.Set, ast.Hold, ast.Back}[chance.Intn(6)]
		}
		kids := 1
		switch n.Kind {
		case ast.Set:
			n.Set = sets[chance.Intn(len(sets))]
		case ast.Hold:
			n.Num = 1 + chance.Intn(7)
		case ast.Back:
			n.Num, n.Mode = 1+chance.Intn(2), chance.Intn(2)
		case ast.Cat, ast.Alt:
			kids = 2 + chance.Intn(2)
		case ast.Group:
			x.Groups++
			x.Names = append(x.Names, "")
			n.Num = x.Groups
		case ast.Repeat:
			c := counts[chance.Intn(len(counts))]
			n.Min, n.Max, n.Mode = c[0], c[1], chance.Intn(2)
		case ast.Look:
			n.Num = 1 + chance.Intn(4)
		}
		x.Nodes = append(x.Nodes, n)
		if n.Kind < ast.Cat {
			return at
		}
		for range kids {
			x.Nodes[at].Kids = append(x.Nodes[at].Kids, grow((many-1)/kids))
		}
		return at
	}
	grow(many)
	return x
}

// word is a text by chance.
func word(chance *rand.Rand, most int) string {
	l := ""
	for range chance.Intn(most + 1) {
		l += []string{"a", "a", "b", "b", "A", "\n", "\u212a", "\xff"}[chance.Intn(8)]
	}
	return l
}

func TestWalkGrown(t *testing.T) {
	chance := rand.New(rand.NewSource(170))
	taken := 0
	seen := map[int]int{}
	for taken < 12000 {
		x := grown(chance, chance.Intn(30))
		if e, _ := well.Check(x); e != api.OK {
			continue
		}
		taken++
		s := symbols(t, word(chance, 6))
		for _, s := range walks(t, x, comp.Compile(x), s, chance.Intn(s.Len()+1)) {
			seen[s.Kind]++
		}
	}
	for kind := event.Begin; kind <= event.None; kind++ {
		if seen[kind] < 1000 {
			t.Errorf("%s: just %d", event.Name(kind), seen[kind])
		}
	}
}

// The first success is that of an engine that was written elsewhere, of patterns that both take.
func TestFirst(t *testing.T) {
	var over []string
	for s := range texts([]string{"a", "b", "c"}, 3) {
		over = append(over, s)
	}
	found := 0
	for p := range texts([]string{"a", "(ab|a)", "(a|ab)", "(?:b|", "c)", ")", "+", "*?", "??", "{1,2}", "$"}, 4) {
		x, e, _ := well.Of([]byte(p))
		r, err := regexp.Compile(p)
		// Of turns that take nothing that engine has another view.
		if e != api.OK || err != nil || void(x) {
			continue
		}
		q := comp.Compile(x)
		for _, s := range over {
			l := all(machine(t, q, symbols(t, s), wide))
			last := l[len(l)-1]
			want := r.FindStringSubmatchIndex(s)
			if (last.Kind == event.Match) != (want != nil) || want != nil && !slices.Equal(last.Caps, want) {
				t.Fatalf("%q over %q: %s, want %v", p, s, line(last), want)
			}
			if want != nil {
				found++
			}
		}
	}
	if found < 10000 {
		t.Errorf("just %d were found", found)
	}
}

// void tells whether a repeat's turn may take nothing.
func void(x ast.Tree) bool {
	widths := well.Widths(x)
	return slices.ContainsFunc(x.Nodes, func(n ast.Node) bool { return n.Kind == ast.Repeat && widths[n.Kids[0]].Lo == 0 })
}

// P17.2: limits.

// some are patterns and texts whose walks have states of all kinds.
var some = [][2]string{
	{"a|b", "b"},
	{"(a*)*b", "aac"},
	{"(?:a|b|ab)+?c", "abac"},
	{"(?>a*|b)(?!(c))", "bac"},
	{"ab(?<=(b)|ab|bb)$", "abb"},
	{"(?<!a?b{1,2}|c)(?=..)a++", "bbaca"},
	{`(?:(a)|b\1){2,}|`, "aba"},
	{"(?:(?:)*?a){2}", "ab"},
	{"a", "bbb"},
}

// As soon as a further state is asked for than there may be, it stops; all states ahead of that are as they are.
func TestSteps(t *testing.T) {
	for _, c := range some {
		p, s := program(t, c[0]), symbols(t, c[1])
		want := all(machine(t, p, s, wide))
		for steps := range len(want) + 2 {
			m := machine(t, p, s, vm.Limits{Steps: steps, Stack: api.MaxStack})
			told := min(steps, len(want))
			for k := range told {
				if m.Stop() != vm.Running || m.Count() != k || m.Most() != deepest(want[:k]) {
					t.Fatalf("%q, Steps %d: Stop %d, Count %d, Most %d ahead of %d", c[0], steps, m.Stop(), m.Count(), m.Most(), k)
				}
				if x, ok := m.Next(); !ok || !event.Same(x, want[k]) {
					t.Fatalf("%q, Steps %d: %s, %t; want %s", c[0], steps, line(x), ok, line(want[k]))
				}
			}
			stop := vm.Done
			if steps < len(want) {
				// It isn't asked yet.
				if m.Stop() != vm.Running || m.Count() != steps {
					t.Fatalf("%q, Steps %d: Stop %d, Count %d", c[0], steps, m.Stop(), m.Count())
				}
				m.Next()
				stop = vm.Steps
			} else if m.Stop() != vm.Done {
				// Behind the last one it is done, whether it is asked or not.
				t.Fatalf("%q, Steps %d: Stop %d", c[0], steps, m.Stop())
			}
			ended(t, m, stop, told, deepest(want[:told]))
		}
	}
}

// It stops when more have to wait than may: ahead of the first state that would have more.
func TestStack(t *testing.T) {
	for _, c := range some {
		p, s := program(t, c[0]), symbols(t, c[1])
		want := all(machine(t, p, s, wide))
		for stack := range deepest(want) + 2 {
			m := machine(t, p, s, vm.Limits{Steps: api.MaxSteps, Stack: stack})
			l := all(m)
			end := slices.IndexFunc(want, func(s event.State) bool { return s.Depth > stack })
			stop := vm.Stack
			if end < 0 {
				end, stop = len(want), vm.Done
			}
			if !same(l, want[:end]) {
				t.Fatalf("%q, Stack %d: %s", c[0], stack, told(l))
			}
			ended(t, m, stop, end, deepest(want[:end]))
			if stop != vm.Stack {
				continue
			}
			// As many steps as were told: the further one isn't begun with. One more: it is.
			for steps, stop := range map[int]int{end: vm.Steps, end + 1: vm.Stack} {
				m := machine(t, p, s, vm.Limits{Steps: steps, Stack: stack})
				all(m)
				ended(t, m, stop, end, deepest(want[:end]))
			}
		}
	}
}

// Each of what may have to wait, where nothing may: a Fork's way, a loop's, a barrier, a length.
func TestStackOfEach(t *testing.T) {
	for _, c := range []struct {
		p, s  string
		stack int
		want  string
	}{
		{"a|b", "a", 0, "begin0@0"},
		{"a*", "a", 0, "begin0@0"},
		{"a*?", "a", 0, "begin0@0"},
		{"a{2,}", "aa", 0, "begin0@0; turn0@0; step1@1; turn0@1; step1@2"},
		{"(?>a)", "a", 0, "begin0@0"},
		{"(?!a)", "a", 0, "begin0@0"},
		{"b(?<=a|bb)", "b", 0, "begin0@0; step1@1"},
		{"b(?<=a|bb)", "b", 1, "begin0@0; step1@1; into2@1/1; fork2.2@0/1"},
		{"bb(?<=a|bb)", "bb", 1, "begin0@0; step1@1; step2@2; into3@2/1"},
		// A fork that leaves nothing to wait needs no room; and where one way is taken and the next one waits, there is room.
		{"b(?<=.)", "b", 1, "begin0@0; step1@1; into2@1/1; fork2.2@0/1; step3@1/1; out2@1<2; match0@1 0=0-1"},
		{"a|b|c", "c", 1, "begin0@0; fork0@0/1; miss1@0/1; again0.1@0/1<1; miss2@0/1; again0.2@0<1; step3@1; match0@1 0=0-1"},
		{"..(?<=^.{0,2})", "ab", 2, "begin0@0; step1@1; step2@2; into3@2/1; fork3.1@2/2; miss5@2/2; again3.2@1/2<4; miss5@1/2; again3.3@0/1<4; held5@0/1; fork6.1@0/2; step7@1/2"},
		{"a{2}", "aa", 0, "begin0@0; turn0@0; step1@1; turn0@1; step1@2; match0@2 0=0-2"},
	} {
		m := machine(t, program(t, c.p), symbols(t, c.s), vm.Limits{Steps: 100, Stack: c.stack})
		l := all(m)
		stop := vm.Stack
		if strings.Contains(c.want, "match") {
			stop = vm.Done
		}
		if told(l) != c.want || m.Stop() != stop {
			t.Errorf("%q, Stack %d: %s, Stop %d", c.p, c.stack, told(l), m.Stop())
		}
		ended(t, m, stop, len(l), min(c.stack, deepest(l)))
	}
}

// No step at all.
func TestNoStep(t *testing.T) {
	for _, p := range []string{"", "a", "a|b", "(?=a)"} {
		m := machine(t, program(t, p), symbols(t, "a"), vm.Limits{From: 1})
		if m.Stop() != vm.Running {
			t.Error(m.Stop())
		}
		m.Next()
		ended(t, m, vm.Steps, 0, 0)
	}
}

// The limits at their ends.
func TestLimits(t *testing.T) {
	as := strings.Repeat("a", api.MaxText)
	for _, c := range []struct {
		p, s              string
		limit             vm.Limits
		stop, count, most int
	}{
		// Each turn, and one more at the end, leaves a way to wait.
		{"a*", as[1:], wide, vm.Done, 1 + 2*(1<<16-1) + 4, 1 << 16},
		{"a*", as, wide, vm.Stack, 1 + 2*(1<<16), 1 << 16},
		{"a*", as, vm.Limits{Steps: 1 << 20, Stack: 1<<16 - 1}, vm.Stack, 1 + 2*(1<<16-1), 1<<16 - 1},
		{"a*+", as, wide, vm.Stack, 2 + 2*(1<<16-1), 1 << 16},
		{"(?:a{1000})*", as, wide, vm.Done, 1 + 65*(1+2*1000) + 1 + 2*536 + 1 + 3, 66},
		{"a*?$", as, wide, vm.Done, 1 + 4*(1<<16) + 3, 1},
		{"a*?$", as, from(1 << 16), vm.Done, 4, 1},
		{"(?:a|b)*c", "aaaaaaaaaaaaaaaaaaaa", vm.Limits{Steps: 1639, Stack: 42}, vm.Done, 1639, 42},
		{"(?:a*)*b", strings.Repeat("a", 40), wide, vm.Steps, 1 << 20, 58},
		{"(?:(?:){1000}){1000}", "", wide, vm.Done, 1 + 1000 + 1000*1000 + 1, 0},
		{"(?:(?:(?:){1000}){1000}){1000}", "", wide, vm.Steps, 1 << 20, 0},
		{"b", as, wide, vm.Done, 2*(1<<16+1) + 1, 0},
		{"(?!)", as, wide, vm.Done, 3*(1<<16+1) + 1, 1},
	} {
		m := machine(t, program(t, c.p), symbols(t, c.s), c.limit)
		for {
			s, ok := m.Next()
			if !ok {
				break
			}
			if s.Depth > c.limit.Stack {
				t.Fatalf("%q: %s", c.p, line(s))
			}
		}
		ended(t, m, c.stop, c.count, c.most)
	}
}
