package comp_test

import (
	"iter"
	"math"
	"math/rand"
	"slices"
	"strconv"
	"strings"
	"testing"

	"clew/api"
	"clew/ast"
	"clew/code"
	"clew/comp"
	"clew/parse"
	"clew/rset"
	"clew/well"
)

// whole is a tree of some nodes, with the Groups and Names that they have.
func whole(nodes ...ast.Node) ast.Tree {
	t := ast.Tree{Nodes: nodes, Names: []string{""}}
	for _, n := range nodes {
		if n.Kind == ast.Group {
			t.Groups++
			t.Names = append(t.Names, n.Name)
		}
	}
	return t
}

// formed is a well formed pattern's tree.
func formed(t *testing.T, p string) ast.Tree {
	t.Helper()
	x, e, at := well.Of([]byte(p))
	if e != api.OK {
		t.Fatalf("Of(%.80q): error %d at %d", p, e, at)
	}
	return x
}

// text is a program's instructions.
func text(p code.Program) string {
	var lines []string
	for _, i := range p.Insts {
		lines = append(lines, code.Line(i))
	}
	return strings.Join(lines, "; ")
}

// short is a text without the noughts at the ends of its lines.
func short(lines string) string {
	l := strings.Split(lines, "; ")
	for i, line := range l {
		for strings.HasSuffix(line, " 0") {
			line = line[:len(line)-2]
		}
		l[i] = line
	}
	return strings.Join(l, "; ")
}

// same tells whether two programs are the same.
func same(p, q code.Program) bool {
	return slices.Equal(p.Insts, q.Insts) && slices.EqualFunc(p.Sets, q.Sets, slices.Equal) && slices.Equal(p.Loops, q.Loops) && p.Groups == q.Groups
}

// is holds the program of a tree that layer 9 takes to be what the model has, and to be one that may be; and its places to be those of its nodes.
func is(t *testing.T, x ast.Tree) code.Program {
	t.Helper()
	if e, at := well.Check(x); !x.Right() || e != api.OK {
		t.Fatalf("%+v: not taken: error %d at %d", x, e, at)
	}
	p := comp.Compile(x)
	if q := plain(x); !same(p, q) {
		t.Fatalf("%+v: %s, want %s; %v", x, text(p), text(q), p)
	}
	if !p.Right() {
		t.Fatalf("%+v: %s: may not be", x, text(p))
	}
	placed(t, p, len(x.Nodes))
	return p
}

// placed holds that each instruction of a program, but for the last one, is told of one of so many nodes, and at its place.
func placed(t *testing.T, p code.Program, nodes int) {
	t.Helper()
	var all []int
	for node := -1; node <= nodes; node++ {
		l := comp.Places(p, node)
		if !slices.IsSorted(l) || (node < 0 || node == nodes) && len(l) > 0 {
			t.Fatalf("%s: node %d: %d", text(p), node, l)
		}
		for _, at := range l {
			if p.Insts[at].Node != node {
				t.Fatalf("%s: node %d: %d", text(p), node, l)
			}
		}
		all = append(all, l...)
	}
	slices.Sort(all)
	for i, at := range all {
		if i != at {
			t.Fatalf("%s: %d", text(p), all)
		}
	}
	if len(all) != len(p.Insts)-1 {
		t.Fatalf("%s: %d", text(p), all)
	}
}

// P12.1: each row of the table.

// The chapter's example.
func TestCompileExample(t *testing.T) {
	p := comp.Compile(formed(t, "a*"))
	const want = "init 0 0 0 0 0; loop 0 7 4 0 0; way -1 0 0 0 2; jump 7 0 0 0 0; mark 0 0 0 0 0; set 0 0 0 1 0; next 0 1 0 0 0; match 0 0 0 0 0"
	if s := text(p); s != want || !p.Right() {
		t.Error(s)
	}
	if len(p.Sets) != 1 || !slices.Equal(p.Sets[0], rset.Of('a')) || !slices.Equal(p.Loops, []code.Count{{Min: 0, Max: -1}}) || p.Groups != 0 {
		t.Error(p)
	}
}

// kinds are patterns, and the lines of their programs, without the noughts at the ends of these.
var kinds = map[string]string{
	"":       "match",
	"(?:)":   "match",
	"a":      "set; match",
	"[]-a]":  "set; match",
	".":      "set; match",
	"^":      "hold 1; match",
	"$":      "hold 2; match",
	`\A`:     "hold 1; match",
	`\Z`:     "hold 2; match",
	`\z`:     "hold 3; match",
	"(?m)^":  "hold 4; match",
	"(?m)$":  "hold 5; match",
	`\b`:     "hold 6; match",
	`\B`:     "hold 7; match",
	"ab":     "set 0 0 0 1; set 1 0 0 2; match",
	"abc":    "set 0 0 0 1; set 1 0 0 2; set 2 0 0 3; match",
	"a(?:)b": "set 0 0 0 1; set 1 0 0 3; match",
	// Groups, and what they had.
	"()":              "open 1; close 1; match",
	"(a)":             "open 1; set 0 0 0 1; close 1; match",
	"(a(b))(c)":       "open 1 0 0 1; set 0 0 0 3; open 2 0 0 4; set 1 0 0 5; close 2 0 0 4; close 1 0 0 1; open 3 0 0 6; set 2 0 0 7; close 3 0 0 6; match",
	`(a)\1`:           "open 1 0 0 1; set 0 0 0 2; close 1 0 0 1; back 1 0 0 3; match",
	`(?i)(^)\1`:       "open 1 0 0 1; hold 1 0 0 2; close 1 0 0 1; back 1 1 0 3; match",
	`\2()(?<n>)\k<n>`: "back 2 0 0 1; open 1 0 0 2; close 1 0 0 2; open 2 0 0 4; close 2 0 0 4; back 2 0 0 6; match",
	// One of several.
	"a|b":      "fork 3; set 0 0 0 1; jump 5; way -1 0 0 0 1; set 1 0 0 2; match",
	"|":        "fork 2; jump 3; way -1 0 0 0 1; match",
	"a|b|":     "fork 3; set 0 0 0 1; jump 7; way 6 0 0 0 1; set 1 0 0 2; jump 7; way -1 0 0 0 2; match",
	"|||":      "fork 2; jump 7; way 4 0 0 0 1; jump 7; way 6 0 0 0 2; jump 7; way -1 0 0 0 3; match",
	"ab|c|de":  "fork 4; set 0 0 0 2; set 1 0 0 3; jump 10; way 7 0 0 0 1; set 2 0 0 4; jump 10; way -1 0 0 0 2; set 3 0 0 6; set 4 0 0 7; match",
	"a(?:|b)c": "set 0 0 0 1; fork 3 0 0 2; jump 5 0 0 2; way -1 0 0 2 1; set 1 0 0 4; set 2 0 0 5; match",
	// An Alt whose kid ends with another one, and a Way that stands behind it.
	"(?:a|b)|c": "fork 7; fork 4 0 0 1; set 0 0 0 2; jump 6 0 0 1; way -1 0 0 1 1; set 1 0 0 3; jump 9; way -1 0 0 0 1; set 2 0 0 4; match",
	"a|(?:b|c)": "fork 3; set 0 0 0 1; jump 9; way -1 0 0 0 1; fork 7 0 0 2; set 1 0 0 3; jump 9 0 0 2; way -1 0 0 2 1; set 2 0 0 4; match",
	// Repeats.
	"a*":         "init; loop 0 7 4; way -1 0 0 0 2; jump 7; mark; set 0 0 0 1; next 0 1; match",
	"a+":         "init; loop 0 7 4; way -1 0 0 0 2; jump 7; mark; set 0 0 0 1; next 0 1; match",
	"a*?":        "init; loop 0 6 3; way -1 0 0 0 1; mark; set 0 0 0 1; next 0 1; match",
	"a{2,3}?":    "init; loop 0 6 3; way -1 0 0 0 1; mark; set 0 0 0 1; next 0 1; match",
	"(?:)*":      "init; loop 0 6 4; way -1 0 0 0 2; jump 6; mark; next 0 1; match",
	"(?:)*?":     "init; loop 0 5 3; way -1 0 0 0 1; mark; next 0 1; match",
	"ba?c":       "set 0 0 0 1; init 0 0 0 2; loop 0 8 5 2; way -1 0 0 2 2; jump 8 0 0 2; mark 0 0 0 2; set 1 0 0 3; next 0 2 0 2; set 2 0 0 4; match",
	"ba??c":      "set 0 0 0 1; init 0 0 0 2; loop 0 7 4 2; way -1 0 0 2 1; mark 0 0 0 2; set 1 0 0 3; next 0 2 0 2; set 2 0 0 4; match",
	"(?:a*b+?)?": "init; loop 0 19 4; way -1 0 0 0 2; jump 19; mark; init 1 0 0 2; loop 1 12 9 2; way -1 0 0 2 2; jump 12 0 0 2; mark 1 0 0 2; set 0 0 0 3; next 1 6 0 2; init 2 0 0 4; loop 2 18 15 4; way -1 0 0 4 1; mark 2 0 0 4; set 1 0 0 5; next 2 13 0 4; next 0 1; match",
	// Once and for all.
	"(?>a)": "into -1; set 0 0 0 1; cut; match",
	"(?>)":  "into -1; cut; match",
	"a++":   "into -1; init 0 0 0 1; loop 0 8 5 1; way -1 0 0 1 2; jump 8 0 0 1; mark 0 0 0 1; set 0 0 0 2; next 0 2 0 1; cut; match",
	// Looks.
	"(?=a)":     "into -1; set 0 0 0 1; peek; match",
	"(?!a)":     "into 3; set 0 0 0 1; refute; match",
	"(?<=a)":    "into -1; retreat 1 1; set 0 0 0 1; meet; peek; match",
	"(?<!a)":    "into 5; retreat 1 1; set 0 0 0 1; meet; refute; match",
	"(?=)":      "into -1; peek; match",
	"(?!)":      "into 2; refute; match",
	"(?<=)":     "into -1; retreat; meet; peek; match",
	"(?<!)":     "into 4; retreat; meet; refute; match",
	"(?!a)b":    "into 3 0 0 1; set 0 0 0 2; refute 0 0 0 1; set 1 0 0 3; match",
	"b(?!a)":    "set 0 0 0 1; into 4 0 0 2; set 1 0 0 3; refute 0 0 0 2; match",
	"b(?<!a)c":  "set 0 0 0 1; into 6 0 0 2; retreat 1 1 0 2; set 1 0 0 3; meet 0 0 0 2; refute 0 0 0 2; set 2 0 0 4; match",
	"(?!(?!a))": "into 5; into 4 0 0 1; set 0 0 0 2; refute 0 0 0 1; refute; match",
	"(?<=a|bc)": "into -1; retreat 1 2; fork 5 0 0 1; set 0 0 0 2; jump 8 0 0 1; way -1 0 0 1 1; set 1 0 0 4; set 2 0 0 5; meet; peek; match",
	// The widths are those of what is within the look.
	"(?<!a?^(?=b*))": "into 21; retreat 0 1; init 0 0 0 2; loop 0 9 6 2; way -1 0 0 2 2; jump 9 0 0 2; mark 0 0 0 2; set 0 0 0 3; next 0 3 0 2; hold 1 0 0 4; into -1 0 0 5; init 1 0 0 6; loop 1 18 15 6; way -1 0 0 6 2; jump 18 0 0 6; mark 1 0 0 6; set 1 0 0 7; next 1 12 0 6; peek 0 0 0 5; meet; refute; match",
}

func TestCompileKinds(t *testing.T) {
	for p, want := range kinds {
		if s := short(text(is(t, formed(t, p)))); s != want {
			t.Errorf("%q: %s, want %s", p, s, want)
		}
	}
}

// A Retreat has the width of what is within its look, as far as that may be.
func TestCompileWidths(t *testing.T) {
	for p, want := range map[string][2]int{
		"(?<=)":                 {0, 0},
		"(?<=a)":                {1, 1},
		"(?<=a{255})":           {255, 255},
		"(?<!a{0,255})":         {0, 255},
		"(?<=a{254,255}?)":      {254, 255},
		"(?<!a{3}b{4,5}|c)":     {1, 8},
		"(?<!(?:a{15}){17})":    {255, 255},
		"(?<=(?<!a{7})^b?)":     {0, 1},
		"(?<=(?=a*)bc)":         {2, 2},
		"(?<!(?:){1000})":       {0, 0},
		`(?<!(?:\b|)*)`:         {0, 0},
		"(?<=(?>ab?+)|(c{3}))":  {1, 3},
		"(?<=a|bc|def)":         {1, 3},
		"(?<=(?:a|bc|def){4}+)": {4, 12},
	} {
		i := is(t, formed(t, p)).Insts[1]
		if i != (code.Inst{Op: code.Retreat, X: want[0], Y: want[1]}) {
			t.Errorf("%q: %s, want %d", p, code.Line(i), want)
		}
	}
}

// Sets, and loops, have their numbers by the order of their nodes, which isn't that in which they end.
func TestCompileNames(t *testing.T) {
	p := is(t, formed(t, "(?:(?:a{1,2}|b){3,}?[c-e]*|(?i:k)??){5}(?<!.)[^\\x00-\\x{10ffff}\xff]"))
	sets := []string{"97 97", "98 98", "99 101", "75 75 107 107 8490 8490", "0 9 11 1114367", "1114112 1114366"}
	if len(p.Sets) != len(sets) {
		t.Fatal(p.Sets)
	}
	for i, l := range p.Sets {
		if s := ends(l); s != sets[i] {
			t.Errorf("set %d: %s, want %s", i, s, sets[i])
		}
	}
	loops := []code.Count{{Min: 5, Max: 5}, {Min: 3, Max: -1, Mode: 1}, {Min: 1, Max: 2}, {Min: 0, Max: -1}, {Min: 0, Max: 1, Mode: 1}}
	if !slices.Equal(p.Loops, loops) {
		t.Error(p.Loops)
	}
	if p.Groups != 0 {
		t.Error(p.Groups)
	}
	// The same set, or the same counts, at several nodes are as many.
	p = is(t, formed(t, "(a*)(a*)a*(?:)*"))
	if len(p.Sets) != 3 || len(p.Loops) != 4 || p.Groups != 2 {
		t.Error(p)
	}
	// Counts at their ends, and a set without ranges.
	p = is(t, whole(
		ast.Node{Kind: ast.Repeat, Min: 1000, Max: 1000, Mode: ast.Lazy, Kids: []int{1}},
		ast.Node{Kind: ast.Repeat, Min: 0, Max: 1, Kids: []int{2}},
		ast.Node{Kind: ast.Repeat, Min: 1000, Max: -1, Kids: []int{3}},
		ast.Node{Kind: ast.Set},
	))
	if !slices.Equal(p.Loops, []code.Count{{Min: 1000, Max: 1000, Mode: 1}, {Min: 0, Max: 1}, {Min: 1000, Max: -1}}) || len(p.Sets) != 1 || len(p.Sets[0]) != 0 {
		t.Error(p)
	}
}

// ends are those of ranges, as a text.
func ends(l []rset.Range) string {
	var parts []string
	for _, r := range l {
		parts = append(parts, strconv.Itoa(r.Lo), strconv.Itoa(r.Hi))
	}
	return strings.Join(parts, " ")
}

// P12.1, over many trees.

// texts are all that are made of up to so many of some pieces.
func texts(pieces []string, most int) iter.Seq[string] {
	return func(yield func(string) bool) {
		var more func(p string, left int) bool
		more = func(p string, left int) bool {
			if !yield(p) {
				return false
			}
			for _, x := range pieces {
				if left > 0 && !more(p+x, left-1) {
					return false
				}
			}
			return true
		}
		more("", most)
	}
}

func TestCompileTexts(t *testing.T) {
	many := 0
	for _, pieces := range [][]string{
		{"a", "|", "(", "(?:", "(?>", ")", "*", "+?", "^"},
		{"a", "{2}?", "?", "(?=", "(?!", "(?<=", "(?<!", ")", "|"},
		{"a++", "(?<n>", ")", `\1`, `\k<n>`, "(?i)", "|", "$", "{3,4}+"},
	} {
		for p := range texts(pieces, 5) {
			if x, e, _ := well.Of([]byte(p)); e == api.OK {
				is(t, x)
				many++
			}
		}
	}
	if many < 8000 {
		t.Errorf("just %d are well formed", many)
	}
}

// tree is a right tree by chance, that no pattern may make, and that has about as many nodes as are wanted.
func tree(chance *rand.Rand, many int) ast.Tree {
	var nodes []ast.Node
	groups := 0
	var grow func(many int) int
	grow = func(many int) int {
		at := len(nodes)
		n := ast.Node{Kind: ast.Cat + chance.Intn(6)}
		if many <= 1 {
			n.Kind = ast.Empty + chance.Intn(4)
		}
		kids := 1
		switch n.Kind {
		case ast.Set:
			n.Set = sets[chance.Intn(len(sets))]
		case ast.Hold:
			n.Num = 1 + chance.Intn(7)
		case ast.Back:
			n.Num, n.Mode = 1+chance.Intn(2), chance.Intn(2)
		case ast.Cat, ast.Alt:
			kids = 2 + chance.Intn(3)
		case ast.Group:
			groups++
			n.Num = groups
		case ast.Repeat:
			c := counts[chance.Intn(len(counts))]
			n.Min, n.Max, n.Mode = c[0], c[1], chance.Intn(2)
		case ast.Look:
			n.Num = 1 + chance.Intn(4)
		}
		nodes = append(nodes, n)
		if n.Kind < ast.Cat {
			return at
		}
		for range kids {
			nodes[at].Kids = append(nodes[at].Kids, grow((many-1)/kids))
		}
		return at
	}
	grow(many)
	return whole(nodes...)
}

// sets are least lists of ranges.
var sets = [][]rset.Range{nil, {{Lo: 0, Hi: 0}}, {{Lo: 97, Hi: 122}}, {{Lo: 0, Hi: api.MaxSym}}, {{Lo: 1, Hi: 2}, {Lo: 4, Hi: 5}}}

// counts are the least and the greatest number of a repeat's turns.
var counts = [][2]int{{0, -1}, {0, 1}, {1, -1}, {2, 2}, {0, 1000}, {3, 7}, {1, 1}}

func TestCompileGrown(t *testing.T) {
	chance := rand.New(rand.NewSource(120))
	taken, refused, behind := 0, 0, 0
	for range 30000 {
		x := tree(chance, chance.Intn(60))
		if !x.Right() {
			t.Fatalf("%+v", x)
		}
		if e, _ := well.Check(x); e != api.OK {
			comp.Compile(x)
			refused++
			continue
		}
		for _, i := range is(t, x).Insts {
			if i.Op == code.Retreat {
				behind++
			}
		}
		taken++
	}
	if taken < 10000 || refused < 3000 || behind < 3000 {
		t.Error(taken, refused, behind)
	}
}

// P12.1, at the limits.

func TestCompileLong(t *testing.T) {
	groups := strings.Repeat("(a", api.MaxGroups) + strings.Repeat(")", api.MaxGroups)
	for p, many := range map[string]int{
		strings.Repeat("a", api.MaxPattern):       api.MaxPattern + 1,
		strings.Repeat("|", api.MaxPattern):       1 + 2*api.MaxPattern + 1,
		strings.Repeat("a*", api.MaxPattern/2):    7*api.MaxPattern/2 + 1,
		strings.Repeat("a*+", api.MaxPattern/3):   9*(api.MaxPattern/3) + 1,
		strings.Repeat("(?<!)", api.MaxPattern/5): 4*(api.MaxPattern/5) + 1,
		groups:                 3*api.MaxGroups + 1,
		groups + `\99(?i:\99)`: 3*api.MaxGroups + 3,
		strings.Repeat("(?:", api.MaxNest) + "a" + strings.Repeat(")?", api.MaxNest):   6*api.MaxNest + 2,
		strings.Repeat("(?<!", api.MaxNest) + "a" + strings.Repeat(")", api.MaxNest):   4*api.MaxNest + 2,
		strings.Repeat("(?>|(?:", api.MaxNest/2) + strings.Repeat("))", api.MaxNest/2): 5*api.MaxNest/2 + 1,
	} {
		if q := is(t, formed(t, p)); len(q.Insts) != many {
			t.Errorf("%.20q: %d instructions, want %d", p, len(q.Insts), many)
		}
	}
	// The greatest Phase is that of the last of as many kids as there may be.
	nodes := []ast.Node{{Kind: ast.Alt}}
	for i := range api.MaxPattern + 1 {
		nodes[0].Kids = append(nodes[0].Kids, i+1)
		nodes = append(nodes, ast.Node{Kind: ast.Empty})
	}
	p := is(t, whole(nodes...))
	if last := p.Insts[len(p.Insts)-2]; last != (code.Inst{Op: code.Way, X: -1, Phase: api.MaxPattern}) {
		t.Error(code.Line(last))
	}
}

// As deep as parts may be nested in one another: what is beyond a program's own limits is in it all the same.
func TestCompileDeep(t *testing.T) {
	const deep = 1 << 16
	for _, n := range []ast.Node{{Kind: ast.Atomic}, {Kind: ast.Repeat, Max: -1}, {Kind: ast.Repeat, Max: 1, Mode: ast.Lazy}, {Kind: ast.Look, Num: ast.NotBehind}, {Kind: ast.Group}} {
		nodes := make([]ast.Node, deep)
		for i := range nodes {
			nodes[i] = n
			nodes[i].Kids = []int{i + 1}
			if n.Kind == ast.Group {
				nodes[i].Num = i + 1
			}
		}
		nodes[deep-1] = ast.Node{Kind: ast.Set}
		x := whole(nodes...)
		p := comp.Compile(x)
		if many := sizes(x)[0] + 1; len(p.Insts) != many || !slices.Contains(comp.Places(p, deep-1), indexOf(p, code.Set)) {
			t.Errorf("kind %d: %d instructions, want %d", n.Kind, len(p.Insts), many)
		}
	}
}

// indexOf is the first place of an instruction that does something.
func indexOf(p code.Program, op int) int {
	return slices.IndexFunc(p.Insts, func(i code.Inst) bool { return i.Op == op })
}

// P12.2.

func TestPlaces(t *testing.T) {
	for _, x := range []struct {
		p    string
		want [][]int
	}{
		{"", [][]int{nil, nil}},
		{"a", [][]int{{0}, nil}},
		{"a*", [][]int{{0, 1, 2, 3, 4, 6}, {5}, nil}},
		{"a*?", [][]int{{0, 1, 2, 3, 5}, {4}, nil}},
		{"ab", [][]int{nil, {0}, {1}, nil}},
		{"a|(b)", [][]int{{0, 2, 3}, {1}, {4, 6}, {5}, nil}},
		{"(?<=a|bc)", [][]int{{0, 1, 8, 9}, {2, 4, 5}, {3}, nil, {6}, {7}, nil}},
		{"(?>(?!a)^)|", [][]int{{0, 7, 8}, {1, 6}, nil, {2, 4}, {3}, {5}, nil, nil}},
	} {
		p := comp.Compile(formed(t, x.p))
		for node, want := range x.want {
			if l := comp.Places(p, node); !slices.Equal(l, want) {
				t.Errorf("%q, node %d: %d, want %d", x.p, node, l, want)
			}
		}
		for _, node := range []int{math.MinInt, -1, len(x.want), 1 << 14, 1<<32 + 1, math.MaxInt} {
			if l := comp.Places(p, node); len(l) > 0 {
				t.Errorf("%q, node %d: %d", x.p, node, l)
			}
		}
	}
}

// Programs that no tree makes, and such as may not be: places are those of their instructions all the same.
func TestPlacesOfAny(t *testing.T) {
	p := code.Program{Insts: []code.Inst{
		{Op: code.Match, Node: 3}, {Op: code.Set, Node: 3}, {Op: 0, Node: 3}, {Op: -19, Node: math.MinInt}, {Op: 20, Node: 3},
		{Op: code.Cut, Node: 0, Phase: 3}, {Op: code.Match, Node: 0}, {Op: code.Jump, X: 3, Y: 3, Z: 3, Node: 4}, {Op: code.Way, Node: 3, Phase: 9}, {Op: code.Match, Node: math.MinInt}, {Op: code.Refute, Node: math.MaxInt}, {Op: code.Set, Node: 3 + 1<<32},
	}}
	for node, want := range map[int][]int{
		3: {1, 2, 4, 8}, 0: {5}, 4: {7}, math.MinInt: {3}, math.MaxInt: {10}, 3 + 1<<32: {11}, 1: nil, 9: nil, -3: nil, -1: nil, math.MinInt + 3: nil,
	} {
		if l := comp.Places(p, node); !slices.Equal(l, want) {
			t.Errorf("node %d: %d, want %d", node, l, want)
		}
	}
	for _, node := range []int{math.MinInt, -1, 0, 1, math.MaxInt} {
		if l := comp.Places(code.Program{}, node); len(l) > 0 {
			t.Errorf("of nothing, node %d: %d", node, l)
		}
	}
	// Each Op but a Match.
	p = code.Program{}
	for op := -1; op <= 21; op++ {
		p.Insts = append(p.Insts, code.Inst{Op: op, Node: 7})
	}
	if l := comp.Places(p, 7); len(l) != 22 || slices.Contains(l, code.Match+1) {
		t.Error(l)
	}
}

// P1 and the rules of memory.

// Trees that aren't right, or that layer 9 doesn't take, have no promise but that calls on them end, without a panic.
func TestWrongTrees(t *testing.T) {
	for _, p := range []string{`\1`, `()\2`, `\k<x>`, "(?<=a*)", `(?<!\1())`, "(?<=a{256})", `a|(?<!(?<=b+))`} {
		x, e, at := parse.Parse([]byte(p))
		if f, _ := well.Check(x); e != api.OK || f == api.OK {
			t.Fatalf("%q: %d at %d, %d", p, e, at, f)
		}
		if q := comp.Compile(x); len(q.Insts) > 0 || len(q.Sets) > 0 || len(q.Loops) > 0 || q.Groups != 0 {
			t.Errorf("%q: %v", p, q)
		}
	}
	for _, x := range []ast.Tree{{}, {Names: []string{""}}, {Groups: -1}, {Nodes: []ast.Node{{}}}} {
		comp.Compile(x)
	}
	numbers := []int{math.MinInt, -1, 0, 1, 2, 8, math.MaxInt}
	for kind := -1; kind <= 11; kind++ {
		for _, kid := range numbers {
			for _, x := range numbers {
				n := ast.Node{Kind: kind, From: x, Num: x, Min: x, Max: x, Mode: x, Name: "(", Set: []rset.Range{{Lo: x, Hi: kid}, {Lo: kid, Hi: x}}, Kids: []int{kid, x}}
				one, none := n, n
				one.Kids, one.Set, one.Name, one.From = []int{kid}, nil, "", 0
				none.Kids = nil
				for _, l := range [][]ast.Node{{n, n}, {none}, {one}, {one, one}, {one, none}, {none, n}, {n, none, none}, {n, one, one}} {
					for _, tree := range []ast.Tree{{Nodes: l}, whole(l...), {Nodes: l, Groups: x, Names: []string{"", ""}}} {
						comp.Compile(tree)
					}
				}
			}
		}
	}
}

// Kids that are shared, or go round, don't make it go on and on.
func TestCompileEnds(t *testing.T) {
	var twice, round []ast.Node
	for i := range 200 {
		twice = append(twice, ast.Node{Kind: ast.Cat, Kids: []int{i + 1, i + 1}})
		round = append(round, ast.Node{Kind: ast.Alt, Kids: []int{i, (i + 1) % 200}})
	}
	twice = append(twice, ast.Node{Kind: ast.Set})
	comp.Compile(whole(twice...))
	comp.Compile(whole(round...))
	comp.Compile(whole(ast.Node{Kind: ast.Atomic, Kids: []int{0}}))
}

// spared is a well formed pattern's tree, all of whose lists have spare room.
func spared(t *testing.T, p string) ast.Tree {
	x := formed(t, p)
	for i, n := range x.Nodes {
		x.Nodes[i].Kids = append(slices.Clone(n.Kids), -5)[:len(n.Kids)]
		x.Nodes[i].Set = append(slices.Clone(n.Set), rset.Range{Lo: -5, Hi: -5})[:len(n.Set)]
	}
	x.Nodes = append(slices.Clone(x.Nodes), ast.Node{Kind: -5})[:len(x.Nodes)]
	x.Names = append(slices.Clone(x.Names), "x")[:len(x.Names)]
	return x
}

// What is handed in is left as it is, its spare room too, and what is told hangs on it alone.
func TestArgumentsAreLeft(t *testing.T) {
	const pattern = `(?m)(?<n>ab)[c-e]{1,3}?|^\k<n>*+(?<!.|fg)`
	x, y := spared(t, pattern), formed(t, pattern)
	p := comp.Compile(x)
	if !ast.Same(x, y) || !slices.EqualFunc(x.Nodes, y.Nodes, func(m, n ast.Node) bool { return m.From == n.From && m.To == n.To }) {
		t.Error("the tree was changed")
	}
	for i, n := range x.Nodes {
		if n.Kids[:len(n.Kids)+1][len(n.Kids)] != -5 || n.Set[:len(n.Set)+1][len(n.Set)] != (rset.Range{Lo: -5, Hi: -5}) {
			t.Errorf("spare room of node %d", i)
		}
	}
	if x.Nodes[:len(x.Nodes)+1][len(x.Nodes)].Kind != -5 || x.Names[:len(x.Names)+1][len(x.Names)] != "x" {
		t.Error("spare room of the tree")
	}
	comp.Compile(formed(t, "b*|(c)"))
	if !same(p, plain(y)) {
		t.Error("it goes with another call")
	}
	// Where nodes stand in a pattern, and how groups are named, is no part of a program.
	for i := range y.Nodes {
		y.Nodes[i].From, y.Nodes[i].To, y.Nodes[i].Name = 0, 0, ""
	}
	y.Names = make([]string, len(y.Names))
	if !same(p, comp.Compile(y)) {
		t.Error("it hangs on where nodes stand, or on names")
	}
}

// What is told shares no memory: not with what was handed in, and not with what else is told.
func TestAnswersAreNew(t *testing.T) {
	// Two nodes have one list.
	x := formed(t, "([ac]|[ac])*d{3}")
	x.Nodes[5].Set = x.Nodes[4].Set
	p, q := comp.Compile(x), comp.Compile(x)
	spoiled := q.Sets[0][:cap(q.Sets[0])]
	for i := range spoiled {
		spoiled[i] = rset.Range{Lo: -7, Hi: -7}
	}
	if !slices.Equal(q.Sets[1], p.Sets[1]) {
		t.Error("two lists of a program share memory")
	}
	q.Insts, q.Loops, q.Sets = q.Insts[:cap(q.Insts)], q.Loops[:cap(q.Loops)], q.Sets[:cap(q.Sets)]
	clear(q.Insts)
	clear(q.Loops)
	clear(q.Sets)
	if !ast.Same(x, formed(t, "([ac]|[ac])*d{3}")) {
		t.Error("a program shares memory with its tree")
	}
	if !same(p, plain(x)) {
		t.Error("two programs share memory")
	}
	k, l := comp.Places(p, 1), comp.Places(p, 1)
	k = k[:cap(k)]
	clear(k)
	if l[len(l)-1] == 0 || !slices.Equal(l, comp.Places(p, 1)) || !same(p, plain(x)) {
		t.Error("two lists of places share memory")
	}
}
