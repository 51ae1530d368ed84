package well_test

import (
	"bytes"
	"math/big"
	"math/rand"
	"slices"
	"strconv"
	"strings"
	"testing"

	"clew/api"
	"clew/ast"
	"clew/parse"
	"clew/rset"
	"clew/well"
)

// whole is a tree of some nodes, with the Groups and Names that they have.
func whole(nodes ...ast.Node) ast.Tree {
	t := ast.Tree{Nodes: nodes, Names: []string{""}}
	for _, n := range nodes {
		if n.Kind == ast.Group {
			t.Groups++
			t.Names = append(t.Names, n.Name)
		}
	}
	return t
}

// parsed is a right pattern's tree, that may not be well formed.
func parsed(t *testing.T, p string) ast.Tree {
	t.Helper()
	x, e, at := parse.Parse([]byte(p))
	if e != api.OK {
		t.Fatalf("Parse(%q): error %d at %d", p, e, at)
	}
	return x
}

// told are widths, as a text.
func told(l []well.Width) string {
	var parts []string
	for _, w := range l {
		parts = append(parts, strconv.Itoa(w.Lo)+","+strconv.Itoa(w.Hi))
	}
	return strings.Join(parts, " ")
}

// P9.1.

// Each node's width, by its number.
func TestWidths(t *testing.T) {
	for p, want := range map[string]string{
		"":                "0,0",
		"a":               "1,1",
		"[a-z]":           "1,1",
		".":               "1,1",
		"^":               "0,0",
		`\b`:              "0,0",
		`\1`:              "0,-1",
		`\k<x>`:           "0,-1",
		"(?=a)":           "0,0 1,1",
		"(?!a)":           "0,0 1,1",
		"(?<=ab)":         "0,0 2,2 1,1 1,1",
		"(?<!a*)":         "0,0 0,-1 1,1",
		"(a)":             "1,1 1,1",
		"(?<n>a+)":        "1,-1 1,-1 1,1",
		"(?>a|bc)":        "1,2 1,2 1,1 2,2 1,1 1,1",
		"abc":             "3,3 1,1 1,1 1,1",
		"a^b":             "2,2 1,1 0,0 1,1",
		"a*b":             "1,-1 0,-1 1,1 1,1",
		"ba*":             "1,-1 1,1 0,-1 1,1",
		"ba*c?":           "1,-1 1,1 0,-1 1,1 0,1 1,1",
		`(a)\1`:           "1,-1 1,1 1,1 0,-1",
		"ab|c":            "1,2 2,2 1,1 1,1 1,1",
		"a|bc|":           "0,2 1,1 2,2 1,1 1,1 0,0",
		"bc|a":            "1,2 2,2 1,1 1,1 1,1",
		"a+|b":            "1,-1 1,-1 1,1 1,1",
		"b|a+":            "1,-1 1,1 1,-1 1,1",
		"a*|b|cd":         "0,-1 0,-1 1,1 1,1 2,2 1,1 1,1",
		"|":               "0,0 0,0 0,0",
		"a?":              "0,1 1,1",
		"a??":             "0,1 1,1",
		"a*":              "0,-1 1,1",
		"a+?":             "1,-1 1,1",
		"a{3}":            "3,3 1,1",
		"a{0,1000}":       "0,1000 1,1",
		"a{7,}":           "7,-1 1,1",
		"a{2,5}b?":        "2,6 2,5 1,1 0,1 1,1",
		"(?:a|bc){2,3}":   "2,6 1,2 1,1 2,2 1,1 1,1",
		"(?:a+){2,3}":     "2,-1 1,-1 1,1",
		"(?:a*){3}":       "0,-1 0,-1 1,1",
		"(?:)*":           "0,0 0,0",
		"(?:^){3,}":       "0,0 0,0",
		"(?:(?=a+)){2,9}": "0,0 0,0 1,-1 1,1",
		"(?:a?){4}":       "0,4 0,1 1,1",
		`(?:\1){2}`:       "0,-1 0,-1",
		"a{2}+":           "2,2 2,2 1,1",
	} {
		if got := told(well.Widths(parsed(t, p))); got != want {
			t.Errorf("%q: %s, want %s", p, got, want)
		}
	}
}

// Numbers at 2^20, and above.
func TestWidthsThatAreGreat(t *testing.T) {
	const k = "(?:a{1000}){1000}" // 1000000
	const m = "(?:a{1000}){48}a{576}"
	for p, want := range map[string]well.Width{
		k:                             {Lo: 1000000, Hi: 1000000},
		k + m:                         {Lo: 1 << 20, Hi: 1 << 20},
		m + k:                         {Lo: 1 << 20, Hi: 1 << 20},
		k + m + "a":                   {Lo: 1 << 20, Hi: -1},
		"a" + m + k:                   {Lo: 1 << 20, Hi: -1},
		k + m + "a?":                  {Lo: 1 << 20, Hi: -1},
		k + "(?:a{0,1000}){48}":       {Lo: 1000000, Hi: 1048000},
		k + "(?:a{0,1000}){49}":       {Lo: 1000000, Hi: -1},
		k + k + "^":                   {Lo: 1 << 20, Hi: -1},
		k + k + k:                     {Lo: 1 << 20, Hi: -1},
		"(?:a{512}){512}":             {Lo: 1 << 18, Hi: 1 << 18},
		"(?:(?:a{512}){512}){4}":      {Lo: 1 << 20, Hi: 1 << 20},
		"(?:(?:a{512}){512}){3,5}":    {Lo: 3 << 18, Hi: -1},
		"(?:(?:a{512}){512}){4,5}":    {Lo: 1 << 20, Hi: -1},
		"(?:(?:a{512}){512}){5}":      {Lo: 1 << 20, Hi: -1},
		"(?:(?:a{512}){512}){0,4}":    {Lo: 0, Hi: 1 << 20},
		"(?:(?:a{512}){512}){0,5}":    {Lo: 0, Hi: -1},
		"(?:" + k + "){2,}":           {Lo: 1 << 20, Hi: -1},
		"(?:" + k + ")?":              {Lo: 0, Hi: 1000000},
		"(?:" + k + k + ")?":          {Lo: 0, Hi: -1},
		k + k + "|b":                  {Lo: 1, Hi: -1},
		"b|" + k + k:                  {Lo: 1, Hi: -1},
		k + "|" + k + k:               {Lo: 1000000, Hi: -1},
		"(?:" + k + k + "){1000}":     {Lo: 1 << 20, Hi: -1},
		"(" + k + k + ")":             {Lo: 1 << 20, Hi: -1},
		"(?>" + k + m + ")":           {Lo: 1 << 20, Hi: 1 << 20},
		"(?=" + k + k + ")":           {},
		"(?:(?=" + k + k + ")){1000}": {},
		k + m + `\1`:                  {Lo: 1 << 20, Hi: -1},
	} {
		if got := well.Widths(parsed(t, p))[0]; got != want {
			t.Errorf("%q: %d, want %d", p, got, want)
		}
	}
	// However deep the repeats are.
	p := "a"
	for range api.MaxNest {
		p = "(?:" + p + "){1000}"
	}
	for i, w := range well.Widths(parsed(t, p))[:api.MaxNest-2] {
		if w != (well.Width{Lo: 1 << 20, Hi: -1}) {
			t.Errorf("node %d: %d", i, w)
		}
	}
}

// Nodes that no pattern makes, in right trees.
func TestWidthsOfTrees(t *testing.T) {
	none := whole(ast.Node{Kind: ast.Set})
	if got := told(well.Widths(none)); got != "1,1" {
		t.Errorf("a set without ranges: %s", got)
	}
	x := whole(
		ast.Node{Kind: ast.Cat, To: 9, Kids: []int{1, 3}},
		ast.Node{Kind: ast.Repeat, Min: 0, Max: 1000, Mode: ast.Lazy, Kids: []int{2}},
		ast.Node{Kind: ast.Set},
		ast.Node{Kind: ast.Look, Num: ast.NotBehind, Kids: []int{4}},
		ast.Node{Kind: ast.Back, Num: 0, Name: "x"},
	)
	if got := told(well.Widths(x)); got != "0,1000 0,1000 1,1 0,0 0,-1" {
		t.Error(got)
	}
	wide := ast.Node{Kind: ast.Alt}
	nodes := []ast.Node{wide}
	for i := range api.MaxPattern + 1 {
		nodes[0].Kids = append(nodes[0].Kids, i+1)
		nodes = append(nodes, ast.Node{Kind: ast.Set})
	}
	if got := well.Widths(whole(nodes...)); len(got) != api.MaxPattern+2 || got[0] != (well.Width{Lo: 1, Hi: 1}) {
		t.Error(got[0])
	}
	nodes[0].Kind, nodes[0].Kids = ast.Cat, nodes[0].Kids[:api.MaxPattern]
	if got := well.Widths(whole(nodes[:api.MaxPattern+1]...)); got[0] != (well.Width{Lo: api.MaxPattern, Hi: api.MaxPattern}) {
		t.Error(got[0])
	}
}

// exact is a node's width as it is, however great; nil: without a bound.
func exact(t ast.Tree, i int) (lo, hi *big.Int) {
	n := t.Nodes[i]
	switch n.Kind {
	case ast.Set:
		return big.NewInt(1), big.NewInt(1)
	case ast.Back:
		return big.NewInt(0), nil
	case ast.Empty, ast.Hold, ast.Look:
		return big.NewInt(0), big.NewInt(0)
	}
	lo, hi = exact(t, n.Kids[0])
	for _, kid := range n.Kids[1:] {
		l, h := exact(t, kid)
		switch {
		case n.Kind == ast.Cat:
			lo = l.Add(l, lo)
		case l.Cmp(lo) < 0:
			lo = l
		}
		switch {
		case hi == nil || h == nil:
			hi = nil
		case n.Kind == ast.Cat:
			hi = h.Add(h, hi)
		case h.Cmp(hi) > 0:
			hi = h
		}
	}
	if n.Kind == ast.Repeat {
		lo.Mul(lo, big.NewInt(int64(n.Min)))
		switch {
		case hi != nil && hi.Sign() == 0:
		case hi == nil || n.Max == -1:
			hi = nil
		default:
			hi.Mul(hi, big.NewInt(int64(n.Max)))
		}
	}
	return lo, hi
}

// cut are exact numbers as a width.
func cut(lo, hi *big.Int) well.Width {
	most := big.NewInt(1 << 20)
	w := well.Width{Lo: 1 << 20, Hi: -1}
	if lo.Cmp(most) <= 0 {
		w.Lo = int(lo.Int64())
	}
	if hi != nil && hi.Cmp(most) <= 0 {
		w.Hi = int(hi.Int64())
	}
	return w
}

// grown is a right pattern by chance, of a depth.
func grown(chance *rand.Rand, deep int) string {
	alone := []string{"a", ".", "[b-d]", `\1`, `\2`, `\k<n>`, "", "^", `\B`, "(?i)", "|", "|"}
	quantifiers := []string{"", "", "", "", "*", "+?", "??", "{2}", "{0,7}+", "{3,}?", "{1000}", "{32}", "{16,64}", "{128}"}
	heads := []string{"(", "(?:", "(?:", "(?:", "(?>", "(?=", "(?<=", "(?<!"}
	p := ""
	for range 1 + chance.Intn(3) {
		switch k := chance.Intn(3); {
		case k < 1 && deep > 0:
			p += alone[chance.Intn(len(alone))]
		case k < 2 || deep == 0:
			p += "a" + quantifiers[chance.Intn(len(quantifiers))]
		default:
			p += heads[chance.Intn(len(heads))] + grown(chance, deep-1) + ")" + quantifiers[chance.Intn(len(quantifiers))]
		}
	}
	return p
}

// faulty is what is wrong with a tree, by the exact numbers.
func faulty(t ast.Tree) (api.Errno, int) {
	for _, n := range t.Nodes {
		if n.Kind == ast.Back && !(1 <= n.Num && n.Num <= t.Groups) {
			return api.ErrGroup, n.From
		}
		if n.Kind == ast.Look && n.Num >= ast.Behind {
			if _, hi := exact(t, n.Kids[0]); hi == nil || hi.Cmp(big.NewInt(api.MaxBehind)) > 0 {
				return api.ErrBehind, n.From
			}
		}
	}
	return api.OK, 0
}

// All of it, against exact numbers.
func TestGrown(t *testing.T) {
	chance := rand.New(rand.NewSource(9))
	seen := map[api.Errno]int{}
	wide, edge := 0, 0
	for range 20000 {
		p := grown(chance, 4)
		x := parsed(t, p)
		widths := well.Widths(x)
		if len(widths) != len(x.Nodes) {
			t.Fatalf("%q: %d widths of %d nodes", p, len(widths), len(x.Nodes))
		}
		for i, w := range widths {
			lo, hi := exact(x, i)
			if want := cut(lo, hi); w != want {
				t.Fatalf("%q: node %d: %d, want %d", p, i, w, want)
			}
			if hi != nil && w.Hi == -1 {
				wide++
			}
			if w.Hi > api.MaxBehind {
				edge++
			}
		}
		e, at := faulty(x)
		if f, place := well.Check(x); f != e || place != at {
			t.Fatalf("Check of %q: %d at %d, want %d at %d", p, f, place, e, at)
		}
		y, f, place := well.Of([]byte(p))
		if f != e || place != at || ast.Same(x, y) != (e == api.OK) {
			t.Fatalf("Of(%q): %d at %d, want %d at %d", p, f, place, e, at)
		}
		seen[e]++
	}
	if wide < 100 || edge < 100 || seen[api.OK] < 1000 || seen[api.ErrGroup] < 1000 || seen[api.ErrBehind] < 1000 {
		t.Error(wide, edge, seen)
	}
}

// P9.2 and P9.3.

// answer is an error, and its place.
type answer struct {
	e  api.Errno
	at int
}

// checks are patterns that can be read, and what Check tells of them.
func checks() map[string]answer {
	return map[string]answer{
		"":                {},
		"a":               {},
		`(a)\1`:           {},
		`\1(a)`:           {},
		`(\1)`:            {},
		`(a)(b)\2`:        {},
		`(a)\2`:           {api.ErrGroup, 3},
		`a\1`:             {api.ErrGroup, 1},
		`(a)\9`:           {api.ErrGroup, 3},
		`a|b\3`:           {api.ErrGroup, 3},
		`(?:ab\1)*`:       {api.ErrGroup, 5},
		`\k<x>`:           {api.ErrGroup, 0},
		`(?<y>a)b\k<x>`:   {api.ErrGroup, 8},
		`\k<x>(?<x>)`:     {},
		`(?<x>)\k<x>`:     {},
		`\2\1()`:          {api.ErrGroup, 0},
		`\1\2()`:          {api.ErrGroup, 2},
		"(?<=)":           {},
		"(?<=a{1,3}|b)":   {},
		"(?<=a*)":         {api.ErrBehind, 0},
		"(?<!a*)":         {api.ErrBehind, 0},
		"b(?<=a+)":        {api.ErrBehind, 1},
		"(?<=a{255})":     {},
		"(?<!a{255})":     {},
		"(?<=a{256})":     {api.ErrBehind, 0},
		"(?<!a{256})":     {api.ErrBehind, 0},
		"(?<=a{254}b)":    {},
		"(?<=a{254}bc)":   {api.ErrBehind, 0},
		"(?<=a|b{0,256})": {api.ErrBehind, 0},
		"(?<=a{0,})":      {api.ErrBehind, 0},
		"(?<=(?:a{1000}){1000}b{1000}c{1000}(?:a{1000}){47})": {api.ErrBehind, 0},
		"(?=a*)":                         {},
		"(?!a{256})":                     {},
		"(?<=(?=a*)b)":                   {},
		"(?<=(?<=a)b)":                   {},
		"(?<=b(?<=a*))":                  {api.ErrBehind, 5},
		"(?<=a*(?<!b*))":                 {api.ErrBehind, 0},
		"(?=(?<=b*))":                    {api.ErrBehind, 3},
		`(?<=(a)\1)`:                     {api.ErrBehind, 0},
		`(?<=\1)`:                        {api.ErrBehind, 0},
		`(?<=a*)\9`:                      {api.ErrBehind, 0},
		`\9(?<=a*)`:                      {api.ErrGroup, 0},
		`(?=\9)(?<=a*)`:                  {api.ErrGroup, 3},
		`(?=(?<=a*))\9`:                  {api.ErrBehind, 3},
		"(?<=(?:^)*)":                    {},
		"(?<=(?:)*)":                     {},
		`(?<=\b)`:                        {},
		"(?<=a)(?<=b*)(?<=c)":            {api.ErrBehind, 6},
		strings.Repeat("()", 99) + `\99`: {},
		strings.Repeat("()", 98) + `\99`: {api.ErrGroup, 196},
	}
}

func TestCheck(t *testing.T) {
	for p, want := range checks() {
		x := parsed(t, p)
		if e, at := well.Check(x); e != want.e || at != want.at {
			t.Errorf("Check of %q: %d at %d, want %d at %d", p, e, at, want.e, want.at)
		}
	}
}

func TestOf(t *testing.T) {
	for p, want := range checks() {
		x, e, at := well.Of([]byte(p))
		if e != want.e || at != want.at {
			t.Errorf("Of(%q): %d at %d, want %d at %d", p, e, at, want.e, want.at)
		}
		if e != api.OK {
			isNothing(t, p, x)
			continue
		}
		y := parsed(t, p)
		if !ast.Same(x, y) || !sameSpans(x, y) {
			t.Errorf("Of(%q): another tree", p)
		}
	}
}

// sameSpans tells whether the nodes of two trees have the same bytes.
func sameSpans(x, y ast.Tree) bool {
	return slices.EqualFunc(x.Nodes, y.Nodes, func(m, n ast.Node) bool { return m.From == n.From && m.To == n.To })
}

// isNothing holds a tree against nothing.
func isNothing(t *testing.T, p string, x ast.Tree) {
	t.Helper()
	if len(x.Nodes) > 0 || x.Groups != 0 || len(x.Names) > 0 {
		t.Errorf("Of(%q): a tree beside an error", p)
	}
}

// Patterns that can't be read: layer 8's errors come first.
func TestOfErrors(t *testing.T) {
	for p, want := range map[string]answer{
		"(":                                   {api.ErrParen, 0},
		"a)":                                  {api.ErrParen, 1},
		"*":                                   {api.ErrRepeat, 0},
		`a\q`:                                 {api.ErrEscape, 1},
		"[":                                   {api.ErrClass, 0},
		"a{3,2}":                              {api.ErrCount, 1},
		`\9(`:                                 {api.ErrParen, 2},
		"(?<=a*)[":                            {api.ErrClass, 7},
		`\9(?<=a*)a**`:                        {api.ErrRepeat, 11},
		"(?<=a*":                              {api.ErrParen, 0},
		strings.Repeat("a", api.MaxPattern+1): {api.ErrLong, 0},
		`\9` + strings.Repeat("a", api.MaxPattern): {api.ErrLong, 0},
	} {
		x, e, at := well.Of([]byte(p))
		if e != want.e || at != want.at {
			t.Errorf("Of(%.20q): %d at %d, want %d at %d", p, e, at, want.e, want.at)
		}
		isNothing(t, p, x)
	}
	if _, e, _ := well.Of(nil); e != api.OK {
		t.Error(e)
	}
	if _, e, _ := well.Of([]byte(strings.Repeat("a", api.MaxPattern))); e != api.OK {
		t.Error(e)
	}
}

// Trees that no pattern makes.
func TestCheckTrees(t *testing.T) {
	back := func(num, groups int, name string) ast.Tree {
		nodes := []ast.Node{{Kind: ast.Cat, To: 9}, {Kind: ast.Back, From: 5, To: 7, Num: num, Name: name}}
		nodes[0].Kids = []int{1}
		for range groups {
			nodes[0].Kids = append(nodes[0].Kids, len(nodes))
			nodes = append(nodes, ast.Node{Kind: ast.Group, From: 7, To: 9, Num: len(nodes) / 2, Kids: []int{len(nodes) + 1}}, ast.Node{Kind: ast.Empty, From: 8, To: 8})
		}
		return whole(nodes...)
	}
	for _, c := range []struct {
		num, groups int
		name        string
		want        answer
	}{
		{0, 2, "x", answer{api.ErrGroup, 5}},
		{1, 2, "x", answer{}},
		{1, 2, "", answer{}},
		{2, 2, "", answer{}},
		{3, 2, "", answer{api.ErrGroup, 5}},
		{3, 2, "x", answer{api.ErrGroup, 5}},
		{99, 98, "", answer{api.ErrGroup, 5}},
		{99, 99, "", answer{}},
		{99, 100, "", answer{}},
	} {
		if e, at := well.Check(back(c.num, c.groups, c.name)); e != c.want.e || at != c.want.at {
			t.Errorf("%d of %d: %d at %d", c.num, c.groups, e, at)
		}
	}
	// The first node, not the first byte, and not the first of one of the errors.
	x := whole(
		ast.Node{Kind: ast.Alt, From: 1, To: 9, Kids: []int{1, 3}},
		ast.Node{Kind: ast.Look, From: 6, To: 9, Num: ast.NotBehind, Kids: []int{2}},
		ast.Node{Kind: ast.Back, From: 7, To: 8, Num: 1},
		ast.Node{Kind: ast.Back, From: 2, To: 4, Num: 1},
	)
	if e, at := well.Check(x); e != api.ErrBehind || at != 6 {
		t.Error(e, at)
	}
}

// P1 and the rules of memory.

// Trees that aren't right have no promise but that calls on them end, without a panic.
func TestWrongTrees(t *testing.T) {
	if got := well.Widths(ast.Tree{}); len(got) != 0 {
		t.Error(got)
	}
	if e, at := well.Check(ast.Tree{}); e != api.OK || at != 0 {
		t.Error(e, at)
	}
	numbers := []int{-1 << 63, -1, 0, 1, 2, 1<<63 - 1}
	for kind := -1; kind <= 11; kind++ {
		for _, kid := range numbers {
			for _, x := range numbers {
				n := ast.Node{Kind: kind, From: x, Num: x, Min: x, Max: x, Kids: []int{kid, x}}
				bare := n
				bare.Kids = nil
				for _, tree := range []ast.Tree{{Nodes: []ast.Node{n, n}}, {Nodes: []ast.Node{bare}}, {Nodes: []ast.Node{bare, n}, Groups: x}} {
					if got := well.Widths(tree); len(got) != len(tree.Nodes) {
						t.Fatal(got)
					}
					well.Check(tree)
				}
			}
		}
	}
}

// What is handed in is left as it is, its spare room too.
func TestArgumentsAreLeft(t *testing.T) {
	p := []byte(`(?<n>ab)(?<=c{1,3}|d)\k<n>*)]`)
	room := bytes.Clone(p)
	x, e, _ := well.Of(room[:len(p)-2])
	if e != api.OK || !bytes.Equal(room, p) {
		t.Fatal(e, string(room))
	}
	for i := range room {
		room[i] = '('
	}
	y := parsed(t, string(p[:len(p)-2]))
	if !ast.Same(x, y) {
		t.Error("it goes with the pattern")
	}
	for i := range y.Nodes {
		y.Nodes[i].Kids = append(slices.Clone(y.Nodes[i].Kids), -5)[:len(y.Nodes[i].Kids)]
	}
	first, second := well.Widths(y), well.Widths(y)
	was := told(second)
	first = first[:cap(first)]
	for i := range first {
		first[i] = well.Width{Lo: -7, Hi: -7}
	}
	if told(second) != was || told(well.Widths(y)) != was {
		t.Error("two answers share memory")
	}
	if e, at := well.Check(y); e != api.OK || at != 0 {
		t.Error(e, at)
	}
	if !ast.Same(x, y) || !sameSpans(x, y) {
		t.Error("the tree was changed")
	}
	for i, n := range y.Nodes {
		if n.Kids[:len(n.Kids)+1][len(n.Kids)] != -5 {
			t.Errorf("spare room of node %d", i)
		}
	}
}

// A tree that was told stays, whatever is done with another one.
func TestTreesStay(t *testing.T) {
	p := []byte(`(?<n>ab)[c]`)
	x, _, _ := well.Of(p)
	y, _, _ := well.Of(p)
	for i := range y.Nodes {
		y.Nodes[i].Set = append(y.Nodes[i].Set[:0], rset.Range{Lo: 1, Hi: 2})
	}
	y.Names[1] = "z"
	if !ast.Same(x, parsed(t, string(p))) {
		t.Error("it goes with another answer")
	}
}
