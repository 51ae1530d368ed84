package ast_test

import (
	"iter"
	"math"
	"slices"
	"strings"
	"testing"

	"clew/api"
	"clew/ast"
	"clew/rset"
)

// rr are ranges, by their ends.
func rr(ends ...int) []rset.Range {
	var l []rset.Range
	for i := 0; i+1 < len(ends); i += 2 {
		l = append(l, rset.Range{Lo: ends[i], Hi: ends[i+1]})
	}
	return l
}

// whole is a tree of some nodes, with the Groups and Names that they have.
func whole(nodes ...ast.Node) ast.Tree {
	t := ast.Tree{Nodes: nodes, Names: []string{""}}
	for _, n := range nodes {
		if n.Kind == ast.Group {
			t.Groups++
			t.Names = append(t.Names, n.Name)
		}
	}
	return t
}

// above is a tree of a node and so many Empties as its kids.
func above(n ast.Node, kids int) ast.Tree {
	n.Kids = nil
	nodes := []ast.Node{n}
	for i := 1; i <= kids; i++ {
		nodes[0].Kids = append(nodes[0].Kids, i)
		nodes = append(nodes, ast.Node{Kind: ast.Empty, From: n.From, To: n.From})
	}
	return whole(nodes...)
}

// sample is a right node of each kind, and how few kids it may have, and how many.
type sample struct {
	node      ast.Node
	few, many int
}

func samples() []sample {
	return []sample{
		{ast.Node{Kind: ast.Empty}, 0, 0},
		{ast.Node{Kind: ast.Set, Set: rr('a', 'c')}, 0, 0},
		{ast.Node{Kind: ast.Hold, Num: ast.Last}, 0, 0},
		{ast.Node{Kind: ast.Back, Num: 5, Mode: ast.Folded}, 0, 0},
		{ast.Node{Kind: ast.Cat}, 2, 4096},
		{ast.Node{Kind: ast.Alt}, 2, 4097},
		{ast.Node{Kind: ast.Group, Num: 1}, 1, 1},
		{ast.Node{Kind: ast.Repeat, Min: 2, Max: 7, Mode: ast.Lazy}, 1, 1},
		{ast.Node{Kind: ast.Atomic}, 1, 1},
		{ast.Node{Kind: ast.Look, Num: ast.Behind}, 1, 1},
	}
}

// probes are numbers at all edges, beside them, and some that would be within if they were cut to fewer bits.
func probes() []int {
	return []int{
		math.MinInt, math.MinInt + 1, -1<<32 + 1, -1000, -99, -2, -1, 0, 1, 2, 3, 4, 5, 6, 7, 8, 9, 50, 98, 99, 100, 101,
		255, 256, 257, 500, 999, 1000, 1001, 4095, 4096, 4097, 1<<16 + 1, 1<<31 + 1, 1 << 32, 1<<32 + 1, 1<<32 + 3, math.MaxInt,
	}
}

// shape is each node's parent; -1: the first one's.
type shape []int

// shapes are all that a tree of so many nodes can have.
func shapes(many int) []shape {
	if many == 1 {
		return []shape{{-1}}
	}
	var l []shape
	for _, s := range shapes(many - 1) {
		// What stands behind a node is its kid, or that of one that it is in.
		for up := len(s) - 1; up >= 0; up = s[up] {
			l = append(l, append(slices.Clone(s), up))
		}
	}
	return l
}

// tree is one of a shape, of Empties, Atomics and Cats.
func (s shape) tree() ast.Tree {
	kids := make([][]int, len(s))
	for i, up := range s[1:] {
		kids[up] = append(kids[up], i+1)
	}
	return linked(kids...)
}

// in tells whether a node is another one, or in it.
func (s shape) in(i, of int) bool {
	for i >= 0 && i != of {
		i = s[i]
	}
	return i >= 0
}

// linked is a tree of nodes with such Kids.
func linked(kids ...[]int) ast.Tree {
	var nodes []ast.Node
	for _, l := range kids {
		kind := ast.Cat
		switch len(l) {
		case 0:
			kind = ast.Empty
		case 1:
			kind = ast.Atomic
		}
		nodes = append(nodes, ast.Node{Kind: kind, Kids: l})
	}
	return whole(nodes...)
}

// lists are all lists of up to so many numbers, each from one up to another one.
func lists(many, from, to int) [][]int {
	all := [][]int{nil}
	last := all
	for range many {
		var longer [][]int
		for _, l := range last {
			for x := from; x <= to; x++ {
				longer = append(longer, append(slices.Clone(l), x))
			}
		}
		all, last = append(all, longer...), longer
	}
	return all
}

// pattern is the tree of (?<x>a*?|\b)(?<=\k<x>[^a-y]|), with bytes, a name and each field of a node.
func pattern() ast.Tree {
	return whole(
		ast.Node{Kind: ast.Cat, To: 29, Kids: []int{1, 6}},
		ast.Node{Kind: ast.Group, To: 12, Num: 1, Name: "x", Kids: []int{2}},
		ast.Node{Kind: ast.Alt, From: 4, To: 10, Kids: []int{3, 5}},
		ast.Node{Kind: ast.Repeat, From: 4, To: 7, Min: 2, Max: 900, Mode: ast.Lazy, Kids: []int{4}},
		ast.Node{Kind: ast.Set, From: 4, To: 5, Set: rr('a', 'a')},
		ast.Node{Kind: ast.Hold, From: 8, To: 10, Num: ast.Word},
		ast.Node{Kind: ast.Look, From: 12, To: 29, Num: ast.Behind, Kids: []int{7}},
		ast.Node{Kind: ast.Alt, From: 16, To: 28, Kids: []int{8, 11}},
		ast.Node{Kind: ast.Cat, From: 16, To: 27, Kids: []int{9, 10}},
		ast.Node{Kind: ast.Back, From: 16, To: 21, Num: 1, Mode: ast.Folded, Name: "x"},
		ast.Node{Kind: ast.Set, From: 21, To: 27, Set: rr(0, 96, 'z', api.MaxSym)},
		ast.Node{Kind: ast.Empty, From: 28, To: 28},
	)
}

// clone is a tree in memory of its own.
func clone(t ast.Tree) ast.Tree {
	t.Names = slices.Clone(t.Names)
	t.Nodes = slices.Clone(t.Nodes)
	for i, n := range t.Nodes {
		t.Nodes[i].Set, t.Nodes[i].Kids = slices.Clone(n.Set), slices.Clone(n.Kids)
	}
	return t
}

// The constants.

func TestConstants(t *testing.T) {
	for _, l := range [][]int{
		{ast.Empty, ast.Set, ast.Hold, ast.Back, ast.Cat, ast.Alt, ast.Group, ast.Repeat, ast.Atomic, ast.Look},
		{ast.Begin, ast.End, ast.Last, ast.LineBegin, ast.LineEnd, ast.Word, ast.NotWord},
		{ast.Ahead, ast.NotAhead, ast.Behind, ast.NotBehind},
	} {
		for i, x := range l {
			if x != i+1 {
				t.Errorf("%d of %d", x, l)
			}
		}
	}
	if ast.Greedy != 0 || ast.Lazy != 1 || ast.Exact != 0 || ast.Folded != 1 {
		t.Error("modes")
	}
}

// P6.1: Right

func TestRight(t *testing.T) {
	if !pattern().Right() {
		t.Error("pattern")
	}
	for _, s := range samples() {
		for _, kids := range []int{s.few, s.many} {
			if x := above(s.node, kids); !x.Right() {
				t.Errorf("%+v with %d kids", s.node, kids)
			}
		}
	}
	// The chapter's example.
	x := whole(
		ast.Node{Kind: ast.Cat, Kids: []int{1, 2}},
		ast.Node{Kind: ast.Empty},
		ast.Node{Kind: ast.Group, Num: 1, Kids: []int{3}},
		ast.Node{Kind: ast.Empty},
	)
	if !x.Right() || x.Parent(3) != 2 {
		t.Error("example")
	}
}

func TestRightNothing(t *testing.T) {
	for _, x := range []ast.Tree{
		{}, {Names: []string{""}}, {Nodes: []ast.Node{}, Names: []string{""}}, {Nodes: []ast.Node{{}}, Names: []string{""}}, {Groups: -1}, {Groups: 1, Names: []string{"", "x"}},
	} {
		if x.Right() {
			t.Errorf("%+v", x)
		}
	}
}

func TestRightKind(t *testing.T) {
	for _, kind := range probes() {
		for _, s := range samples() {
			n := s.node
			n.Kind = kind
			if kind != s.node.Kind && (kind < 1 || kind > 10) && above(n, s.few).Right() {
				t.Errorf("%+v", n)
			}
		}
		if x := whole(ast.Node{Kind: kind}); x.Right() != (kind == ast.Empty || kind == ast.Set) {
			t.Errorf("just of kind %d", kind)
		}
	}
}

// numbersOf tells which numbers a node of a kind may have, if all else of it is as its sample's.
func numbersOf(kind int) (num, low, high, mode func(x int) bool) {
	nought := func(x int) bool { return x == 0 }
	from := func(lo, hi int) func(x int) bool { return func(x int) bool { return lo <= x && x <= hi } }
	switch kind {
	case ast.Hold:
		return from(1, 7), nought, nought, nought
	case ast.Back:
		return from(1, 99), nought, nought, from(0, 1)
	case ast.Group:
		return from(1, 1), nought, nought, nought
	case ast.Repeat:
		return nought, from(0, 7), func(x int) bool { return x == -1 || x >= 2 && x <= 1000 }, from(0, 1)
	case ast.Look:
		return from(1, 4), nought, nought, nought
	}
	return nought, nought, nought, nought
}

func TestRightNumbers(t *testing.T) {
	for _, s := range samples() {
		num, low, high, mode := numbersOf(s.node.Kind)
		for _, x := range probes() {
			for _, f := range []struct {
				field *int
				may   bool
			}{
				{&s.node.Num, num(x)}, {&s.node.Min, low(x)}, {&s.node.Max, high(x)}, {&s.node.Mode, mode(x)},
			} {
				was := *f.field
				*f.field = x
				if r := above(s.node, s.few).Right(); r != f.may {
					t.Errorf("Right of %+v: %t", s.node, r)
				}
				*f.field = was
			}
		}
	}
}

func TestRightCounts(t *testing.T) {
	for _, least := range probes() {
		for _, most := range probes() {
			for mode := -1; mode <= 2; mode++ {
				may := least >= 0 && least <= 1000 && (most == -1 || most >= least && most >= 1 && most <= 1000) && (mode == 0 || mode == 1)
				n := ast.Node{Kind: ast.Repeat, Min: least, Max: most, Mode: mode}
				if r := above(n, 1).Right(); r != may {
					t.Errorf("Right of %+v: %t", n, r)
				}
			}
		}
	}
}

func TestRightNames(t *testing.T) {
	for _, s := range samples() {
		named := s.node.Kind == ast.Back || s.node.Kind == ast.Group
		for _, x := range []struct {
			name string
			may  bool
		}{
			{"", true}, {"x", named}, {strings.Repeat("x", 31), named}, {strings.Repeat("x", 32), named},
			{strings.Repeat("x", 33), false}, {strings.Repeat("x", 4096), false},
			// Thirty-two letters that have two bytes each, and sixteen.
			{strings.Repeat("\u00e9", 32), false}, {strings.Repeat("\u00e9", 16), named},
			// What a name has in it, the chapter doesn't say.
			{"0 >\x00\xff", named},
		} {
			s.node.Name = x.name
			if r := above(s.node, s.few).Right(); r != x.may {
				t.Errorf("Right of %+v: %t", s.node, r)
			}
		}
	}
}

// With a Name, a Back may have no number.
func TestRightBack(t *testing.T) {
	for _, num := range probes() {
		for _, name := range []string{"", "x", strings.Repeat("y", 32)} {
			may := num >= 1 && num <= 99 || num == 0 && name != ""
			for mode := range 2 {
				if x := whole(ast.Node{Kind: ast.Back, Num: num, Name: name, Mode: mode}); x.Right() != may {
					t.Errorf("Back of %d, %q: %t", num, name, !may)
				}
			}
		}
	}
}

func TestRightSets(t *testing.T) {
	for _, s := range samples() {
		for _, x := range []struct {
			set   []rset.Range
			least bool
		}{
			{rr(0, 0), true}, {rr(0, api.MaxSym), true}, {rr(0, 9, 11, api.MaxSym), true}, {rr(1, 2, 4, 5, 7, 7), true}, {rr(api.MaxSym, api.MaxSym), true},
			{rr(5, 4), false}, {rr(1, 2, 3, 4), false}, {rr(3, 4, 0, 1), false}, {rr(1, 5, 3, 7), false}, {rr(1, 2, 1, 2), false}, {rr(1, 2, 9, 8), false},
			{rr(-1, 4), false}, {rr(-1, -1), false}, {rr(0, api.MaxSym+1), false}, {rr(api.MaxSym+1, api.MaxSym+1), false}, {rr(math.MinInt, math.MaxInt), false},
		} {
			s.node.Set = x.set
			if r := above(s.node, s.few).Right(); r != (x.least && s.node.Kind == ast.Set) {
				t.Errorf("Right of %+v: %t", s.node, r)
			}
		}
		for _, none := range [][]rset.Range{nil, {}} {
			s.node.Set = none
			if !above(s.node, s.few).Right() {
				t.Errorf("Right of %+v", s.node)
			}
		}
	}
}

func TestRightHowManyKids(t *testing.T) {
	for _, s := range samples() {
		for _, kids := range []int{0, 1, 2, 3, 4, 4095, 4096, 4097, 4098} {
			if r := above(s.node, kids).Right(); r != (kids >= s.few && kids <= s.many) {
				t.Errorf("Right of %+v with %d kids: %t", s.node, kids, r)
			}
		}
	}
}

// Of all lists of Kids, those are right that some shape has.
func TestRightKids(t *testing.T) {
	all := lists(2, -1, 4)
	all = append(all, []int{1, 2, 3}, []int{1, 3, 2}, []int{3, 2, 1}, []int{1, 2, 4}, []int{1, 2, 3, 4})
	key := func(t ast.Tree) [16]int {
		var k [16]int
		for i, n := range t.Nodes {
			copy(k[4*i:], n.Kids)
			for j := len(n.Kids); j < 4; j++ {
				k[4*i+j] = math.MinInt
			}
		}
		return k
	}
	for many := 1; many <= 3; many++ {
		right := map[[16]int]bool{}
		for _, s := range shapes(many) {
			right[key(s.tree())] = true
		}
		found := 0
		for kids := range choices(all, many) {
			x := linked(kids...)
			r := x.Right()
			if r {
				found++
			}
			if r != right[key(x)] {
				t.Fatalf("Right of %d: %t", kids, r)
			}
		}
		if found != len(right) {
			t.Errorf("%d of %d nodes, want %d", found, many, len(right))
		}
	}
}

// choices are all lists of so many, each one of those that are there.
func choices(all [][]int, many int) iter.Seq[[][]int] {
	return func(yield func([][]int) bool) {
		var more func(l [][]int) bool
		more = func(l [][]int) bool {
			if len(l) == many {
				return yield(l)
			}
			for _, x := range all {
				if !more(append(l[:len(l):len(l)], x)) {
					return false
				}
			}
			return true
		}
		more(nil)
	}
}

func TestRightShapes(t *testing.T) {
	for many := 1; many <= 8; many++ {
		for _, s := range shapes(many) {
			if !s.tree().Right() {
				t.Fatalf("Right of %d", s)
			}
			// One number of the Kids another one, or one more or less of them, and it is no tree.
			for i := range s {
				for j := range s.tree().Nodes[i].Kids {
					for kid := -1; kid <= many+1; kid++ {
						x := s.tree()
						if x.Nodes[i].Kids[j] != kid {
							x.Nodes[i].Kids[j] = kid
							if x.Right() {
								t.Fatalf("Right of %d, of %d the kid %d: %d", s, i, j, kid)
							}
						}
					}
				}
			}
			x := s.tree()
			x.Nodes = append(x.Nodes, ast.Node{Kind: ast.Empty})
			if x.Right() {
				t.Fatalf("Right of %d and one more", s)
			}
			x.Nodes = x.Nodes[:many-1]
			if x.Right() {
				t.Fatalf("Right of %d less one", s)
			}
		}
	}
}

func TestRightBytes(t *testing.T) {
	ends := []int{math.MinInt, -1, 0, 1, 2, 4095, 4096, 4097, math.MaxInt}
	for _, from := range ends {
		for _, to := range ends {
			may := from >= 0 && from <= to && to <= 4096
			if x := whole(ast.Node{Kind: ast.Set, From: from, To: to}); x.Right() != may {
				t.Errorf("from %d to %d: %t", from, to, !may)
			}
			for _, lo := range ends {
				for _, hi := range ends {
					x := whole(
						ast.Node{Kind: ast.Cat, From: from, To: to, Kids: []int{1, 2}},
						ast.Node{Kind: ast.Empty, From: from, To: from},
						ast.Node{Kind: ast.Set, From: lo, To: hi},
					)
					if r := x.Right(); r != (may && lo >= from && lo <= hi && hi <= to) {
						t.Errorf("from %d to %d within %d and %d: %t", lo, hi, from, to, r)
					}
				}
			}
		}
	}
}

// Each kid is within its own parent, not just within the whole; where it stands beside its like, the chapter doesn't say.
func TestRightBytesWithin(t *testing.T) {
	for i := range pattern().Nodes {
		x := pattern()
		up := x.Parent(i)
		if up < 0 {
			continue
		}
		for _, spoil := range []func(n *ast.Node){
			func(n *ast.Node) { n.From = x.Nodes[up].From - 1 },
			func(n *ast.Node) { n.To = x.Nodes[up].To + 1 },
		} {
			x = pattern()
			spoil(&x.Nodes[i])
			if x.Right() {
				t.Errorf("node %d: %+v", i, x.Nodes[i])
			}
		}
	}
	x := whole(
		ast.Node{Kind: ast.Cat, From: 2, To: 9, Kids: []int{1, 2, 3}},
		ast.Node{Kind: ast.Set, From: 6, To: 9},
		ast.Node{Kind: ast.Set, From: 2, To: 9},
		ast.Node{Kind: ast.Set, From: 2, To: 3},
	)
	if !x.Right() {
		t.Error("kids that overlap")
	}
}

// groups is a Cat of two Groups, in the first of which there is another one.
func groups(names ...string) ast.Tree {
	return whole(
		ast.Node{Kind: ast.Cat, Kids: []int{1, 4}},
		ast.Node{Kind: ast.Group, Num: 1, Name: names[0], Kids: []int{2}},
		ast.Node{Kind: ast.Group, Num: 2, Name: names[1], Kids: []int{3}},
		ast.Node{Kind: ast.Empty},
		ast.Node{Kind: ast.Group, Num: 3, Name: names[2], Kids: []int{5}},
		ast.Node{Kind: ast.Back, Num: 99},
	)
}

func TestRightGroups(t *testing.T) {
	for _, names := range [][]string{{"", "", ""}, {"a", "b", "c"}, {"", "b", ""}, {"a", "a", "a"}} {
		if !groups(names...).Right() {
			t.Errorf("groups of %q", names)
		}
	}
	for _, a := range []int{0, 1, 2, 3} {
		for _, b := range []int{0, 1, 2, 3} {
			for _, c := range []int{0, 1, 2, 3, 4} {
				x := groups("a", "b", "c")
				x.Nodes[1].Num, x.Nodes[2].Num, x.Nodes[4].Num = a, b, c
				if r := x.Right(); r != (a == 1 && b == 2 && c == 3) {
					t.Errorf("groups %d, %d, %d: %t", a, b, c, r)
				}
			}
		}
	}
	for _, many := range probes() {
		x := groups("a", "b", "c")
		x.Groups = many
		if r := x.Right(); r != (many == 3) {
			t.Errorf("Groups %d: %t", many, r)
		}
		x = whole(ast.Node{Kind: ast.Empty})
		x.Groups = many
		if r := x.Right(); r != (many == 0) {
			t.Errorf("no group, Groups %d: %t", many, r)
		}
		x.Names = nil
		if x.Right() {
			t.Errorf("no name for 0, Groups %d", many)
		}
	}
}

func TestRightNamesOfGroups(t *testing.T) {
	for _, x := range []struct {
		names []string
		may   bool
	}{
		{[]string{"", "a", "", "c"}, true},
		{nil, false},
		{[]string{}, false},
		{[]string{""}, false},
		{[]string{"", "a", ""}, false},
		{[]string{"a", "", "c"}, false},
		{[]string{"", "a", "", "c", ""}, false},
		{[]string{"", "a", "", "c", "d"}, false},
		{[]string{"x", "a", "", "c"}, false},
		{[]string{"", "b", "", "c"}, false},
		{[]string{"", "", "", "c"}, false},
		{[]string{"", "a", "b", "c"}, false},
		{[]string{"", "a", "", "C"}, false},
		{[]string{"", "c", "", "a"}, false},
	} {
		y := groups("a", "", "c")
		y.Names = x.names
		if r := y.Right(); r != x.may {
			t.Errorf("Names %q: %t", x.names, r)
		}
	}
	// Nodes that are no groups have no part in it.
	y := whole(ast.Node{Kind: ast.Back, Num: 1, Name: "x"})
	if !y.Right() {
		t.Error("a Back with a name that no group has")
	}
	y.Groups, y.Names = 1, []string{"", "x"}
	if y.Right() {
		t.Error("a name that just a Back has")
	}
}

// How many groups there may be, the chapter doesn't say of a tree.
func TestRightManyGroups(t *testing.T) {
	nodes := []ast.Node{{Kind: ast.Alt}}
	for i := 1; i <= 150; i++ {
		nodes[0].Kids = append(nodes[0].Kids, len(nodes))
		nodes = append(nodes, ast.Node{Kind: ast.Group, Num: i, Kids: []int{len(nodes) + 1}}, ast.Node{Kind: ast.Empty})
	}
	if !whole(nodes...).Right() {
		t.Error("150 groups")
	}
}

// Nodes are looked at wherever they stand.
func TestRightEachNode(t *testing.T) {
	for i := range pattern().Nodes {
		for j, spoil := range []func(n *ast.Node){
			func(n *ast.Node) { n.Kind = 0 }, func(n *ast.Node) { n.Kind = 11 },
			func(n *ast.Node) { n.Num += 100 }, func(n *ast.Node) { n.Num = -1 },
			func(n *ast.Node) { n.Min = 1001 }, func(n *ast.Node) { n.Min = -1 },
			func(n *ast.Node) { n.Max = 1001 }, func(n *ast.Node) { n.Max = -2 },
			func(n *ast.Node) { n.Mode = 2 }, func(n *ast.Node) { n.Mode = -1 },
			func(n *ast.Node) { n.Name = strings.Repeat("n", 33) },
			func(n *ast.Node) { n.Set = rr(2, 1) },
			func(n *ast.Node) { n.From = -1 }, func(n *ast.Node) { n.From = n.To + 1 }, func(n *ast.Node) { n.To = 4097 },
			func(n *ast.Node) { n.Kids = append(slices.Clone(n.Kids), 1) },
		} {
			x := pattern()
			spoil(&x.Nodes[i])
			if x.Right() {
				t.Errorf("node %d, fault %d: %+v", i, j, x.Nodes[i])
			}
		}
	}
}

// P6.1: Same

func TestSame(t *testing.T) {
	for _, x := range []ast.Tree{pattern(), groups("a", "", "a"), {}, linked([]int{9, -1}, []int{0}), whole(ast.Node{Kind: -7, Num: math.MinInt, Set: rr(5, 4)})} {
		if !ast.Same(x, x) || !ast.Same(x, clone(x)) {
			t.Errorf("%+v", x)
		}
		y := clone(x)
		for i := range y.Nodes {
			y.Nodes[i].From, y.Nodes[i].To = math.MaxInt, -i
		}
		if !ast.Same(x, y) || !ast.Same(y, x) {
			t.Errorf("%+v, but for where the nodes stand", x)
		}
	}
}

func TestSameNot(t *testing.T) {
	for i := range pattern().Nodes {
		for j, change := range []func(n *ast.Node){
			func(n *ast.Node) { n.Kind++ }, func(n *ast.Node) { n.Kind -= 1 << 32 },
			func(n *ast.Node) { n.Num++ }, func(n *ast.Node) { n.Num += 1 << 32 },
			func(n *ast.Node) { n.Min++ }, func(n *ast.Node) { n.Max++ }, func(n *ast.Node) { n.Max = math.MaxInt },
			func(n *ast.Node) { n.Min, n.Max = n.Min+1, n.Max-1 },
			func(n *ast.Node) { n.Mode++ }, func(n *ast.Node) { n.Mode = -1 },
			func(n *ast.Node) { n.Name += "y" }, func(n *ast.Node) { n.Name = "X" },
			func(n *ast.Node) { n.Set = append(n.Set, rr(1, 1)...) }, func(n *ast.Node) { n.Set = append(n.Set, rr(1, 0)...) },
			func(n *ast.Node) { n.Kids = append(n.Kids, 0) },
		} {
			x, y := pattern(), pattern()
			change(&y.Nodes[i])
			if ast.Same(x, y) || ast.Same(y, x) {
				t.Errorf("node %d, change %d: %+v", i, j, y.Nodes[i])
			}
		}
	}
	for i, change := range []func(x *ast.Tree){
		func(x *ast.Tree) { x.Groups++ }, func(x *ast.Tree) { x.Groups = -1 },
		func(x *ast.Tree) { x.Names[0] = "z" }, func(x *ast.Tree) { x.Names[1] = "" }, func(x *ast.Tree) { x.Names = x.Names[:1] }, func(x *ast.Tree) { x.Names = append(x.Names, "") }, func(x *ast.Tree) { x.Names = nil },
		func(x *ast.Tree) { x.Nodes = nil }, func(x *ast.Tree) { x.Nodes = x.Nodes[:11] }, func(x *ast.Tree) { x.Nodes = append(x.Nodes, ast.Node{}) },
		func(x *ast.Tree) { x.Nodes[0].Kids[1] = 7 }, func(x *ast.Tree) { x.Nodes[0].Kids = []int{6, 1} }, func(x *ast.Tree) { x.Nodes[0].Kids = []int{1} },
		func(x *ast.Tree) { x.Nodes[4], x.Nodes[5] = x.Nodes[5], x.Nodes[4] },
		func(x *ast.Tree) { x.Nodes[10].Set = rr('z', api.MaxSym, 0, 96) }, func(x *ast.Tree) { x.Nodes[10].Set = rr(0, 96) }, func(x *ast.Tree) { x.Nodes[10].Set[0].Lo = 1 }, func(x *ast.Tree) { x.Nodes[10].Set[1].Hi-- },
		// These stand for the same numbers, but they are other lists.
		func(x *ast.Tree) { x.Nodes[10].Set = rr(0, 5, 6, 96, 'z', api.MaxSym) },
	} {
		x, y := pattern(), pattern()
		change(&y)
		if ast.Same(x, y) || ast.Same(y, x) {
			t.Errorf("change %d", i)
		}
	}
}

// Numbers that have changed places, or signs, aren't the same.
func TestSameNumbers(t *testing.T) {
	var all []ast.Tree
	for _, num := range []int{-1, 0, 1} {
		for _, least := range []int{-1, 0, 1} {
			for _, most := range []int{-1, 0, 1} {
				for _, mode := range []int{-1, 0, 1} {
					all = append(all, whole(ast.Node{Kind: ast.Repeat, Num: num, Min: least, Max: most, Mode: mode}))
				}
			}
		}
	}
	for i, a := range all {
		for j, b := range all {
			if ast.Same(a, b) != (i == j) {
				t.Errorf("%+v, %+v", a, b)
			}
		}
	}
}

func TestSameEmptyLists(t *testing.T) {
	a := ast.Tree{Nodes: []ast.Node{{Kind: ast.Set}}}
	b := ast.Tree{Nodes: []ast.Node{{Kind: ast.Set, Set: []rset.Range{}, Kids: []int{}}}, Names: []string{}}
	if !ast.Same(a, b) || !ast.Same(b, a) {
		t.Error("lists of a node")
	}
	a, b = ast.Tree{}, ast.Tree{Nodes: []ast.Node{}, Names: []string{}}
	if !ast.Same(a, b) || !ast.Same(b, a) {
		t.Error("lists of a tree")
	}
}

// P6.2

// places are numbers of nodes, and of some that aren't there.
func places(many int) []int {
	l := []int{math.MinInt, math.MinInt + 1, -1 << 32, 1 << 32, math.MaxInt - 1, math.MaxInt}
	for i := -3; i <= many+3; i++ {
		l = append(l, i)
	}
	return l
}

func TestEnd(t *testing.T) {
	for many := 1; many <= 7; many++ {
		for _, s := range shapes(many) {
			x := s.tree()
			for _, i := range places(many) {
				want := 0
				for j := range s {
					if i >= 0 && s.in(j, i) {
						want = j + 1
					}
				}
				if end := x.End(i); end != want {
					t.Errorf("End(%d) of %d = %d, want %d", i, s, end, want)
				}
			}
		}
	}
}

func TestInside(t *testing.T) {
	for many := 1; many <= 7; many++ {
		for _, s := range shapes(many) {
			x := s.tree()
			for _, i := range places(many) {
				for _, of := range places(many) {
					want := i >= 0 && i < many && of >= 0 && of < many && s.in(i, of)
					if x.Inside(i, of) != want {
						t.Errorf("Inside(%d, %d) of %d: %t", i, of, s, !want)
					}
				}
			}
		}
	}
}

func TestParent(t *testing.T) {
	for many := 1; many <= 7; many++ {
		for _, s := range shapes(many) {
			x := s.tree()
			for _, i := range places(many) {
				want := -1
				if i >= 0 && i < many {
					want = s[i]
				}
				if up := x.Parent(i); up != want {
					t.Errorf("Parent(%d) of %d = %d, want %d", i, s, up, want)
				}
			}
		}
	}
}

// path are the nodes from the first one down to one, by their parents.
func (s shape) path(i int) []int {
	var l []int
	for i >= 0 && i < len(s) {
		l = append(l, i)
		i = s[i]
	}
	slices.Reverse(l)
	return l
}

func TestPath(t *testing.T) {
	for many := 1; many <= 7; many++ {
		for _, s := range shapes(many) {
			x := s.tree()
			for _, i := range places(many) {
				path, want := x.Path(i), s.path(i)
				// It can be gone along again and again.
				for range 2 {
					if l := slices.Collect(path); !slices.Equal(l, want) {
						t.Errorf("Path(%d) of %d = %d, want %d", i, s, l, want)
					}
				}
			}
		}
	}
}

// A path comes as far as it is asked.
func TestPathStops(t *testing.T) {
	x := pattern()
	want := []int{0, 6, 7, 8, 10}
	path := x.Path(10)
	for many := 1; many <= len(want); many++ {
		var l []int
		path(func(at int) bool {
			l = append(l, at)
			return len(l) < many
		})
		if !slices.Equal(l, want[:many]) {
			t.Errorf("as far as %d: %d", many, l)
		}
	}
	// Two that are gone along at one time.
	a, stopA := iter.Pull(path)
	b, stopB := iter.Pull(path)
	defer stopA()
	defer stopB()
	for _, w := range want {
		i, _ := a()
		j, _ := b()
		if i != w || j != w {
			t.Errorf("%d, %d, want %d", i, j, w)
		}
	}
	if _, ok := a(); ok {
		t.Error("more than there is")
	}
}

func TestNoTree(t *testing.T) {
	var x ast.Tree
	for _, i := range places(0) {
		if x.End(i) != 0 || x.Inside(i, i) || x.Inside(0, i) || x.Parent(i) != -1 || len(slices.Collect(x.Path(i))) != 0 {
			t.Errorf("%d", i)
		}
	}
}

func TestPattern(t *testing.T) {
	x := pattern()
	ends := []int{12, 6, 6, 5, 5, 6, 12, 12, 11, 10, 11, 12}
	ups := []int{-1, 0, 1, 2, 3, 2, 0, 6, 7, 8, 8, 7}
	for i := range x.Nodes {
		if end, up := x.End(i), x.Parent(i); end != ends[i] || up != ups[i] {
			t.Errorf("node %d: %d, %d, want %d, %d", i, end, up, ends[i], ups[i])
		}
	}
	if !x.Inside(4, 1) || !x.Inside(4, 4) || x.Inside(1, 4) || x.Inside(6, 1) || x.Inside(5, 3) {
		t.Error("Inside")
	}
}

// P1

// As deep as parts may be nested in one another.
func TestDeep(t *testing.T) {
	const deep = 1 << 16
	nodes := make([]ast.Node, deep)
	for i := range nodes {
		nodes[i] = ast.Node{Kind: ast.Atomic, Kids: []int{i + 1}}
	}
	nodes[deep-1] = ast.Node{Kind: ast.Empty}
	x := whole(nodes...)
	if !x.Right() || !ast.Same(x, x) || x.End(0) != deep || x.Parent(deep-1) != deep-2 || !x.Inside(deep-1, 1) {
		t.Error("deep")
	}
	at := 0
	for i := range x.Path(deep - 1) {
		if i != at {
			t.Fatalf("%d, want %d", i, at)
		}
		at++
	}
	if at != deep {
		t.Errorf("%d nodes", at)
	}
}

// Calls on trees that aren't right end, without a panic.
func TestWrongTreesEnd(t *testing.T) {
	for kids := range choices(lists(2, -1, 3), 3) {
		x := linked(kids...)
		y := clone(x)
		x.Right()
		for i := -1; i <= 3; i++ {
			x.End(i)
			x.Parent(i)
			for j := -1; j <= 3; j++ {
				x.Inside(i, j)
			}
			many := 0
			for range x.Path(i) {
				if many++; many > 3 {
					t.Fatalf("Path(%d) of %d", i, kids)
				}
			}
		}
		if !ast.Same(x, y) {
			t.Fatalf("%d was changed", kids)
		}
	}
	for _, kid := range probes() {
		x := linked([]int{kid}, []int{kid, kid})
		x.Right()
		for _, i := range probes() {
			x.End(i)
			x.Parent(i)
			x.Inside(i, 0)
			x.Inside(0, i)
			x.Inside(1, i)
			for range x.Path(i) {
			}
		}
	}
}

// Nothing that is handed in is changed, its spare room neither.
func TestNothingIsChanged(t *testing.T) {
	const spare = 3
	x := pattern()
	x.Names = append(slices.Grow(x.Names, spare), "p", "q", "r")[:len(x.Names)]
	for i, n := range x.Nodes {
		x.Nodes[i].Set = append(slices.Clone(n.Set), rr(1, 0, 7, 3, 5, 5)...)[:len(n.Set)]
		x.Nodes[i].Kids = append(slices.Clone(n.Kids), 70, 80, 90)[:len(n.Kids)]
	}
	if !x.Right() || !ast.Same(x, pattern()) {
		t.Error("spare room is looked at")
	}
	for i := range x.Nodes {
		x.End(i)
		x.Parent(i)
		x.Inside(i, 1)
		for range x.Path(i) {
		}
	}
	for i, n := range pattern().Nodes {
		y := x.Nodes[i]
		if y.From != n.From || y.To != n.To || !ast.Same(whole(y), whole(n)) {
			t.Errorf("node %d: %+v", i, y)
		}
		set, kids := y.Set[:len(y.Set)+spare], y.Kids[:len(y.Kids)+spare]
		if !slices.Equal(set[len(y.Set):], rr(1, 0, 7, 3, 5, 5)) || !slices.Equal(kids[len(y.Kids):], []int{70, 80, 90}) {
			t.Errorf("spare room of node %d", i)
		}
	}
	if names := x.Names[:len(x.Names)+spare]; !slices.Equal(names, []string{"", "x", "p", "q", "r"}) {
		t.Errorf("%q", names)
	}
}
