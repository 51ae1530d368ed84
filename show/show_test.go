package show_test

import (
	"iter"
	"math"
	"math/rand"
	"regexp"
	"slices"
	"strings"
	"testing"

	"clew/api"
	"clew/ast"
	"clew/parse"
	"clew/rset"
	"clew/show"
	"clew/sym"
	"clew/well"
)

// rr are ranges, by their ends.
func rr(ends ...int) []rset.Range {
	var l []rset.Range
	for i := 0; i+1 < len(ends); i += 2 {
		l = append(l, rset.Range{Lo: ends[i], Hi: ends[i+1]})
	}
	return l
}

// whole is a tree of some nodes, with the Groups and Names that they have.
func whole(nodes ...ast.Node) ast.Tree {
	t := ast.Tree{Nodes: nodes, Names: []string{""}}
	for _, n := range nodes {
		if n.Kind == ast.Group {
			t.Groups++
			t.Names = append(t.Names, n.Name)
		}
	}
	return t
}

// parsed is a right pattern's tree.
func parsed(t *testing.T, p string) ast.Tree {
	t.Helper()
	x, e, at := parse.Parse([]byte(p))
	if e != api.OK {
		t.Fatalf("Parse(%.80q): error %d at %d", p, e, at)
	}
	return x
}

// tokens are all that Show's patterns may be made of: a symbol stands there by its number, and a parenthesis for what is in parentheses.
var tokens = regexp.MustCompile(`^(?:` + strings.Join([]string{
	numbered, `\[\^?(?:` + numbered + `(?:-` + numbered + `)?)+\]`,
	`\\[AZzbB]`, `[\^$]`, `\\[1-9][0-9]?`, `\\k<` + named + `>`,
	`\((?:\?(?:[:>=!]|<[=!]|<` + named + `>|[a-z-]+[:)]))?`, `\)`, `\|`,
	`[*+?]`, `\{[0-9]+(?:,[0-9]*)?\}`,
}, "|") + `)*$`)

const (
	numbered = `(?:\\x[0-9a-f]{2}|\\x\{[0-9a-f]{1,6}\})`
	named    = `[A-Za-z_][A-Za-z_0-9]*`
)

// nest is how many parentheses of a pattern of such tokens are within one another.
func nest(p string) int {
	deep, most := 0, 0
	for _, x := range p {
		switch x {
		case '(':
			deep++
			most = max(most, deep)
		case ')':
			deep--
		}
	}
	return most
}

// again holds what Show tells of a tree to be a pattern of it, and tells the pattern.
func again(t *testing.T, x ast.Tree) string {
	t.Helper()
	p := show.Show(x)
	if !tokens.MatchString(p) {
		t.Fatalf("%+v: %q", x, p)
	}
	y, e, at := parse.Parse([]byte(p))
	if e != api.OK || !ast.Same(x, y) {
		t.Fatalf("%+v: %.200q: error %d at %d", x, p, e, at)
	}
	return p
}

// holds holds the promise of a pattern, if that can be read, and tells whether what is shown can be, too.
func holds(t *testing.T, p string) bool {
	t.Helper()
	x, e, _ := parse.Parse([]byte(p))
	if e != api.OK {
		return false
	}
	s := show.Show(x)
	if len(s) > api.MaxPattern || nest(s) > api.MaxNest {
		return false
	}
	y, e, at := parse.Parse([]byte(s))
	if e != api.OK || !ast.Same(x, y) {
		t.Fatalf("%q: %q: error %d at %d", p, s, e, at)
	}
	if !tokens.MatchString(s) {
		t.Fatalf("%q: %q", p, s)
	}
	return true
}

// P10.1: each kind of node.

func TestShowKinds(t *testing.T) {
	for _, p := range []string{
		"", "a", "ab", "abc", "a|b", "a|b|c", "|", "||", "a|", "|a", "a||b", "ab|cd|",
		// What is in a parenthesis that makes nothing.
		"(?:)", "(?:a)", "(?:)a", "a(?:)", "(?:)(?:)", "a(?:)b", "(?:a|b)", "(?:a|b)c", "c(?:a|b)", "(?:a|)(?:|b)", "(?:a|b)|c", "a|(?:b|c)", "(?:(?:a|b)|c)|d",
		"(?:ab)c", "a(?:bc)", "(?:ab)(?:cd)", "((?:ab)c)", "(?:(?:ab)c)d", "a|(?:bc)", "(?:ab|c)d", "(?:(?:ab)|(?:cd))", "(?:|)", "(?:|)(?:|)", "(?:)|(?:)",
		// Groups.
		"()", "(a)", "(ab)", "(a|b)", "((a)(b))", "(?<n>)", "(?<n>a|b)c", "(?<_9>(?<N>a))", "(a)(?<x>b)(c)", "(?<" + strings.Repeat("n", 32) + ">)",
		// Backs.
		`\1`, `\9`, `\10`, `\99`, `\k<n>`, `(a)\1`, `(a)\10`, `(a)\1` + "0", `(a)\1(?:0)`, `(a)(?:\1)0`, `(?<n>a)\k<n>\1`, `\k<n>(?<n>)`, `(?i)\1`, `(?i)\k<n>`, `(?i)(?<n>a)\k<n>\1(?-i)\1\k<n>`, `(?i:\1)\1(?i:\1)a`, `\1*`, `(?i:\1)*`, `(?i)\k<n>{2,3}?`,
		// Holds.
		"^", "$", `\A`, `\Z`, `\z`, `\b`, `\B`, "(?m)^", "(?m)$", `(?m)^$\A\Z\z\b\B`, `^$\A\Z\z\b\B`, "(?m:^)^", "^(?m:^)", "$(?m:$)", "(?m)^|$", "a|(?m:^)|b", "((?m)^)$", "(?:^)*", "(?m)(?:^)+", "(?m)(?:$){3}", `(?:\A)?`, `(?:\b)*+`,
		// Looks.
		"(?=a)", "(?!a)", "(?<=a)", "(?<!a)", "(?=)", "(?!a|b)", "(?<=ab)(?<!(?=a)b)", "(?=a)*", "(?!a)+?", "(?<=a)??", "(?<!a){2}+", "(?=a*)", "(?=(?=a))",
		// Atomics.
		"(?>a)", "(?>)", "(?>ab|c)", "(?>a)*", "(?>(?>a))", "(?>a*)", "(?>a*?)", "(?>a*?)+", "(?>(?>a*))", "(?>(?>a*?))", "(?>a*)(?>b)", "(?>a*b)", "(?>(a*))", "(?>a*|b)",
	} {
		again(t, parsed(t, p))
	}
}

func TestShowRepeats(t *testing.T) {
	atoms := []string{"a", "[ab]", `\1`, "(?i:\\1)", "(a)", "(?:ab)", "(?:a|b)", "(?:)", "(?:^)", "(?m:^)", `(?:\b)`, "(?>a)", "(?>a*)", "(?:a*)", "(?:a*?)", "(?:a*+)", "(?>a*?)", "(?=a)", "(?<!a)", "(?:(?=a)*)", "(?:(?:ab)*+)"}
	counts := []string{"*", "+", "?", "{1}", "{2}", "{0,1}", "{0,2}", "{1,1}", "{1,2}", "{0,}", "{1,}", "{2,}", "{9,11}", "{1000}", "{0,1000}", "{999,1000}", "{1000,}"}
	modes := []string{"", "?", "+"}
	for _, atom := range atoms {
		for _, count := range counts {
			for _, mode := range modes {
				for _, around := range []string{"@", "@@", "a@b", "@|@", "(@)", "(?:@)", "(?>@)", "(?:@)+", "(?:@){2}?", "(?:@)*+", "(?=@)", "(?m)^@$"} {
					again(t, parsed(t, strings.ReplaceAll(around, "@", atom+count+mode)))
				}
			}
		}
	}
}

// The chapter's example.
func TestShowExample(t *testing.T) {
	x := whole(
		ast.Node{Kind: ast.Cat, Kids: []int{1, 2}},
		ast.Node{Kind: ast.Set, Set: rr(0x61, 0x61)},
		ast.Node{Kind: ast.Atomic, Kids: []int{3}},
		ast.Node{Kind: ast.Repeat, Max: -1, Kids: []int{4}},
		ast.Node{Kind: ast.Set, Set: rr(0x42, 0x42, 0x62, 0x62)},
	)
	if !ast.Same(x, parsed(t, "a(?i)b*+")) {
		t.Fatal("another tree")
	}
	again(t, x)
}

// What layer 9 tells.
func TestShowWell(t *testing.T) {
	for _, p := range []string{"", "(?<=a{1,3}|b)c", `(?<x>a)\k<x>+`, "(a|ab)(c|bcd)", "(?>a|ab)c", "(a*)*", "(?<!a)b", "(?i)k"} {
		x, e, at := well.Of([]byte(p))
		if e != api.OK {
			t.Fatalf("Of(%q): error %d at %d", p, e, at)
		}
		again(t, x)
	}
}

// P10.1: sets.

// Each byte that is an atom alone, each that a backslash makes one, and both beside others.
func TestShowBytes(t *testing.T) {
	many := 0
	for b := range 256 {
		for _, p := range []string{string([]byte{byte(b)}), string([]byte{'\\', byte(b)})} {
			for _, around := range []string{"@", "a@", "@a", "@@", "@*", "(@)", "(?i)@", "[@]", "[^@]"} {
				if holds(t, strings.ReplaceAll(around, "@", p)) {
					many++
				}
			}
		}
	}
	if many < 3500 {
		t.Errorf("just %d can be read", many)
	}
}

// edges are symbols beside which numbers are that are none, and others, rising.
var edges = []int{0, 1, 9, 0xf, 0x10, ' ', '-', 'K', ']', '^', 'k', 0x7f, 0x80, 0xff, 0x100, 0xfff, 0x1000, 0x212a, 0xd7fe, 0xd7ff, 0xe000, 0xe001, 0xfffd, 0xffff, 0x10000, 0x10fffe, 0x10ffff, 0x110080, 0x110081, 0x1100fe, 0x1100ff}

// number is a symbol, as a pattern has it.
func number(x int) string {
	const digits = "0123456789abcdef"
	s := ""
	for ; x > 0 || s == ""; x /= 16 {
		s = digits[x%16:][:1] + s
	}
	return `\x{` + s + "}"
}

func TestShowOneSymbol(t *testing.T) {
	for _, x := range edges {
		for _, around := range []string{"@", "@@", "[@]", "[^@]", "(?i)@", "(?i)[@]", "(?i)[^@]", "[^@-@]*", "@{2}", "(@|@)"} {
			again(t, parsed(t, strings.ReplaceAll(around, "@", number(x))))
		}
		b, _ := sym.Put(x)
		if !holds(t, `\`+string(b)) && (x < 'A' || x > 'z') {
			t.Errorf("%x", x)
		}
	}
}

func TestShowTwoRanges(t *testing.T) {
	for i, a := range edges {
		for j, b := range edges[i:] {
			for k, c := range edges[i+j:] {
				p := number(a) + "-" + number(b) + number(c)
				q := number(a) + number(b) + "-" + number(c)
				for _, s := range []string{"[" + p + "]", "[^" + p + "]", "[" + q + "]", "[^" + q + "]"} {
					again(t, parsed(t, s))
					if k == 0 {
						again(t, parsed(t, "(?i)"+s))
					}
				}
			}
		}
	}
}

// All unions of what lies between the edges of the numbers that are no symbols, and what goes across them.
func TestShowEdges(t *testing.T) {
	parts := []string{`\x{0}`, `\x{1}-\x{d7fe}`, `\x{d7ff}`, `\x{d7ff}-\x{e000}`, `\x{e000}`, `\x{e001}-\x{10fffe}`, `\x{10ffff}`, `\x{10ffff}-\x{110080}`, `\x{110080}`, `\x{110081}-\x{1100fe}`, `\x{1100ff}`}
	for some := range 1 << len(parts) {
		p := ""
		for i, x := range parts {
			if some>>i&1 == 1 {
				p += x
			}
		}
		if p != "" {
			again(t, parsed(t, "["+p+"]"))
			again(t, parsed(t, "[^"+p+"]b"))
		}
	}
}

func TestShowClasses(t *testing.T) {
	for _, p := range []string{
		".", "(?s).", "(?s).*.", "[^a]", "[^\\x{e000}]", "[^\\x{0}-\\x{1100ff}]", "[^\\x{0}-\\x{1100ff}]*", "[\\x{0}-\\x{1100ff}]", "[^\\x{0}-\\x{d7ff}\\x{e000}-\\x{1100ff}]", "[^\\x{0}-\\x{10ffff}\\x{110080}-\\x{1100ff}]", "[\\d\\D]", "[^\\d\\D]",
		`\d`, `\D`, `\w`, `\W`, `\s`, `\S`, `[\W\d]`, `[^\W\d]`, "[[:^alpha:]]", "[^[:^alpha:]]", "[[:punct:]]", "[^[:ascii:]]", "(?i)[a-z]", "(?i)[^k]", "(?i)\\x{17f}", "[]]", "[^]]", "[^^]", "[a-]", "[()]", "[^()]", `[\(-\)]`, "[ab]", "[ac]", "[a-c]", `[\b]`,
	} {
		again(t, parsed(t, p))
		again(t, parsed(t, p+"x"))
	}
}

// A parenthesis stands for what is in parentheses alone.
func TestShowParentheses(t *testing.T) {
	for p, want := range map[string]int{
		`\(`: 0, `\)`: 0, `\(\)`: 0, "[(]": 0, "[)]": 0, "[^()]": 0, "[(-)]": 0, `[^\(]`: 0, `\x28*|\x{29}+`: 0, "(?i)[(]": 0,
		`(\()`: 1, `([)]|\()`: 1, `(?:\(|\))a`: 1, "((([(])))": 3, `(?<n>\()(?=\))`: 1,
	} {
		x := parsed(t, p)
		if s := again(t, x); nest(s) != want || strings.Count(s, "(") != strings.Count(s, ")") {
			t.Errorf("%q: %q", p, s)
		}
	}
}

// P10.1: what it hangs on.

// moved is a tree whose nodes have some other bytes each.
func moved(t ast.Tree, bytes func(i int) (int, int)) ast.Tree {
	t.Nodes = slices.Clone(t.Nodes)
	for i := range t.Nodes {
		t.Nodes[i].From, t.Nodes[i].To = bytes(i)
	}
	return t
}

func TestShowHangsOnNoBytes(t *testing.T) {
	chance := rand.New(rand.NewSource(10))
	ends := []int{math.MinInt, -5000, -1, 0, 1, 2, 4096, 4097, 1 << 40, math.MaxInt}
	for _, p := range []string{"", "a", "(?m)a(?<n>b|)*+(?i)\\k<n>^.", "(?:a|b)c{2,}?(?<!d)", "((?:)(?>a))"} {
		x := parsed(t, p)
		want := again(t, x)
		for _, a := range ends {
			for _, b := range ends {
				if got := show.Show(moved(x, func(int) (int, int) { return a, b })); got != want {
					t.Fatalf("%q from %d to %d: %q", p, a, b, got)
				}
			}
		}
		for range 100 {
			if got := show.Show(moved(x, func(int) (int, int) { return chance.Int() - chance.Int(), chance.Intn(9) })); got != want {
				t.Fatalf("%q: %q", p, got)
			}
		}
	}
	// Patterns of one tree, that stands elsewhere in each.
	for _, l := range [][]string{
		{"ab*", "a(?#c)b*", "(?x) a b * ", "(?:a)(?:b*)", "[a]\\x62{0,}"},
		{"(?i)a|\\1", "(?i:a)|(?i)\\1", "[aA]|(?i)\\1"},
		{"(?m)^$", "(?m:^)(?m:$)", "(?m)(?s)^(?:$)"},
		{"(?>a+)", "a++", "(?:(?>a+))", "(?:a)++", "(?>a{1,})"},
	} {
		want := show.Show(parsed(t, l[0]))
		for _, p := range l {
			if got := show.Show(parsed(t, p)); got != want {
				t.Errorf("%q: %q, and %q: %q", l[0], want, p, got)
			}
		}
	}
}

// Nil and empty lists are one.
func TestShowNilAndEmpty(t *testing.T) {
	x := parsed(t, "a|(b)|[^\\x{0}-\\x{1100ff}]")
	want := again(t, x)
	y := moved(x, func(i int) (int, int) { return 0, 0 })
	for i, n := range y.Nodes {
		if len(n.Kids) == 0 {
			y.Nodes[i].Kids = []int{}
		}
		if len(n.Set) == 0 {
			y.Nodes[i].Set = []rset.Range{}
		}
	}
	if got := show.Show(y); got != want {
		t.Errorf("%q, want %q", got, want)
	}
}

// P10.1: limits.

func TestShowDeep(t *testing.T) {
	for _, head := range []string{"(?>", "(?=", "(?!", "(?<=", "(?<!"} {
		for _, kid := range []string{"a", "", "a|b", "ab", "a*", `\1`, "^", "a*?", "a*+"} {
			again(t, parsed(t, strings.Repeat(head, api.MaxNest)+kid+strings.Repeat(")", api.MaxNest)))
		}
	}
	// What is in parentheses isn't written in more of them.
	for _, p := range []string{
		strings.Repeat("(", 99) + "a" + strings.Repeat(")", 99),
		strings.Repeat("(?:", 100) + "ab" + strings.Repeat(")*", 100),
		strings.Repeat("(?:", 100) + "ab" + strings.Repeat(")*+", 100),
		strings.Repeat("(?:", 100) + "a" + strings.Repeat(")*?b", 100),
		strings.Repeat("(?:", 100) + "a" + strings.Repeat("|b)c", 100),
		strings.Repeat("(?:", 100) + "a" + strings.Repeat("|b)|c", 100),
		strings.Repeat("(?:", 100) + "a" + strings.Repeat("b)c", 100),
		strings.Repeat("(?>", 100) + "a" + strings.Repeat(")*", 100),
		strings.Repeat("(?>", 100) + "a" + strings.Repeat("*?)", 100),
		"(?m)" + strings.Repeat("(?>", 100) + "^$" + strings.Repeat(")", 100),
		"(?m)" + strings.Repeat("(?:", 100) + "^" + strings.Repeat(")*", 100),
		strings.Repeat("(?=", 99) + `(?i)\1` + strings.Repeat(")", 99),
		strings.Repeat("(?:", 100) + strings.Repeat(")*", 100),
	} {
		again(t, parsed(t, p))
	}
}

// Above the limits nothing is promised, but below them all is.
func TestShowLong(t *testing.T) {
	for many := 1; many <= api.MaxPattern; many += 93 {
		for _, p := range []string{"a", "|", "^", "()|", "a*", "a?b"} {
			p = strings.Repeat(p, many)
			if x, e, _ := parse.Parse([]byte(p)); e == api.OK && len(show.Show(x)) <= api.MaxPattern {
				again(t, x)
			}
		}
	}
	again(t, parsed(t, strings.Repeat("|", api.MaxPattern)))
	again(t, parsed(t, strings.Repeat("()", api.MaxGroups)))
	again(t, parsed(t, strings.Repeat("a", api.MaxPattern/4)))
	again(t, parsed(t, strings.Repeat("()", 98)+`(\99)`))
}

// P10.1, over many patterns.

// texts are all that are made of up to so many of some pieces.
func texts(pieces []string, most int) iter.Seq[string] {
	return func(yield func(string) bool) {
		var more func(p string, left int) bool
		more = func(p string, left int) bool {
			if !yield(p) {
				return false
			}
			if left == 0 {
				return true
			}
			for _, x := range pieces {
				if !more(p+x, left-1) {
					return false
				}
			}
			return true
		}
		more("", most)
	}
}

func TestShowTexts(t *testing.T) {
	many := 0
	for p := range texts([]string{"a", "|", "(", "(?:", "(?>", ")", "*", "+", "^"}, 6) {
		if holds(t, p) {
			many++
		}
	}
	for p := range texts([]string{"a*", "{2}", "?", "(?=", ")", "|", "$", "(?i)", "(?m)", `\1`, "(?<n>", `\k<n>`, "0"}, 5) {
		if holds(t, p) {
			many++
		}
	}
	if many < 50000 {
		t.Errorf("just %d can be read", many)
	}
}

// grown is a right pattern by chance, of a depth.
func grown(chance *rand.Rand, deep int) string {
	alone := []string{"a", "k", ".", "[b-d]", "[^b-d]", `\w`, `\W`, `\x6b`, `\1`, `\2`, `\k<n>`, "\u00e9", "\xff", "{", "]", `\*`, `\(`, "[)]", "0"}
	noughts := []string{"^", "$", `\B`, `\z`, "(?i)", "(?s-i)", "(?#c)", "(?m)", "(?-m)", "(?x)", "|", "|", "|"}
	quantifiers := []string{"", "", "", "*", "+?", "??", "{2}", "{0,7}+", "*+", "{3,}?"}
	heads := []string{"(", "(?:", "(?:", "(?:", "(?>", "(?>", "(?=", "(?!", "(?<=", "(?<!", "(?i:", "(?x: ", "(?-mi:"}
	p := ""
	for range chance.Intn(5) {
		switch k := chance.Intn(8); {
		case k < 2:
			p += noughts[chance.Intn(len(noughts))]
		case k < 4 || deep == 0:
			p += alone[chance.Intn(len(alone))] + quantifiers[chance.Intn(len(quantifiers))]
		default:
			p += heads[chance.Intn(len(heads))] + grown(chance, deep-1) + ")" + quantifiers[chance.Intn(len(quantifiers))]
		}
	}
	return p
}

func TestShowGrown(t *testing.T) {
	chance := rand.New(rand.NewSource(100))
	many := 0
	for range 10000 {
		p := grown(chance, 5)
		if holds(t, p) && holds(t, "(?<n>"+p+")") {
			many++
		}
	}
	if many < 7500 {
		t.Errorf("just %d can be read", many)
	}
}

// What is shown is shown again as it is.
func TestShowTwice(t *testing.T) {
	chance := rand.New(rand.NewSource(101))
	for range 2000 {
		x, e, _ := parse.Parse([]byte(grown(chance, 3)))
		if e != api.OK {
			continue
		}
		s := show.Show(x)
		if y, e, _ := parse.Parse([]byte(s)); e == api.OK && show.Show(y) != s {
			t.Fatalf("%q, then %q", s, show.Show(y))
		}
	}
}

// P10.2.

// ints are the characters of a text, by their numbers.
func ints(s string) []int {
	var l []int
	for _, x := range s {
		l = append(l, int(x))
	}
	return l
}

// quoted holds what Quote tells of a list.
func quoted(t *testing.T, l []int) {
	t.Helper()
	var want []int
	for _, x := range l {
		if sym.Is(x) {
			want = append(want, x)
		}
	}
	p := show.Quote(l)
	x, e, at := parse.Parse([]byte(p))
	if e != api.OK {
		t.Fatalf("Quote(%x): %q: error %d at %d", l, p, e, at)
	}
	var nodes []ast.Node
	for _, y := range want {
		nodes = append(nodes, ast.Node{Kind: ast.Set, Set: rr(y, y)})
	}
	switch len(want) {
	case 0:
		nodes = []ast.Node{{Kind: ast.Empty}}
	case 1:
	default:
		cat := ast.Node{Kind: ast.Cat}
		for i := range nodes {
			cat.Kids = append(cat.Kids, i+1)
		}
		nodes = append([]ast.Node{cat}, nodes...)
	}
	if !ast.Same(x, whole(nodes...)) {
		t.Fatalf("Quote(%x): %q", l, p)
	}
}

func TestQuote(t *testing.T) {
	for _, l := range [][]int{
		nil, {}, {'a'}, {'a', 'b'}, {'a', 'a', 'a'}, {'b', 'a'}, {0}, {0, 0}, {api.MaxSym}, {0x10ffff, api.Bad + 0x80},
		// Bytes that would be one symbol, if they stood beside one another.
		{api.Bad + 0xc3, api.Bad + 0xa9}, {api.Bad + 0xe2, api.Bad + 0x82, api.Bad + 0xac}, {api.Bad + 0xf0, api.Bad + 0x9f, api.Bad + 0x98, api.Bad + 0x80},
		// Signs that would make something.
		ints("a*"), ints("a{2}"), ints("(?i)k"), ints("(?x) a #b\n"), ints("[a-c]"), ints("[^a]"), ints("a|b"), ints(`\d`), ints(`\`), ints("(?#a)"), ints("^.$"), ints(")("), ints("]"), ints("{1000000}"), ints(`\1`), ints("-"), ints(" \t\n"),
		ints("x41"), ints("k<n>"),
	} {
		quoted(t, l)
	}
}

func TestQuoteEachSymbol(t *testing.T) {
	for x := -2; x <= api.MaxSym+2; x++ {
		// Few of those far from an edge tell more than one of them.
		if x > 0x3000 && x < 0x10fff0 && x%97 != 0 && (x < 0xd700 || x > 0xe100) && (x < 0xff00 || x > 0x10100) {
			continue
		}
		quoted(t, []int{x})
		quoted(t, []int{'a', x, x, '0'})
	}
}

func TestQuotePairs(t *testing.T) {
	for a := range 128 {
		for b := range 128 {
			quoted(t, []int{a, b})
		}
	}
	for a := 0x80; a < 0x100; a++ {
		for b := 0x80; b < 0x100; b++ {
			quoted(t, []int{api.Bad + a, api.Bad + b})
		}
	}
}

// Numbers that are no symbols are left out, wherever they stand.
func TestQuoteLeavesOut(t *testing.T) {
	none := []int{math.MinInt, -1 << 32, -1, 0xd800, 0xdabc, 0xdfff, 0x110000, 0x110041, 0x11007f, 0x110100, 1<<32 + 'a', math.MaxInt}
	quoted(t, none)
	for _, x := range none {
		quoted(t, []int{x})
		quoted(t, []int{x, 'a'})
		quoted(t, []int{'a', x})
		quoted(t, []int{'a', x, 'b'})
		quoted(t, []int{x, x, 0x110080, x, '*', x})
		if show.Quote([]int{x}) != "" {
			t.Errorf("Quote(%x)", x)
		}
	}
}

func TestQuoteLong(t *testing.T) {
	for _, x := range []int{'a', '(', 0, 0xe9, 0x20ac, 0x10ffff, api.MaxSym} {
		for many := 1; many <= api.MaxPattern+1; many++ {
			l := slices.Repeat([]int{x}, many)
			if len(show.Quote(l)) > api.MaxPattern {
				if many < api.MaxPattern/10 {
					t.Errorf("%d of %x are too long", many, x)
				}
				break
			}
			if many%41 == 0 || len(show.Quote(l)) > api.MaxPattern-20 {
				quoted(t, l)
			}
		}
	}
}

func TestQuoteChance(t *testing.T) {
	chance := rand.New(rand.NewSource(102))
	for range 3000 {
		var l []int
		for range chance.Intn(40) {
			switch chance.Intn(4) {
			case 0:
				l = append(l, chance.Intn(128))
			case 1:
				l = append(l, api.Bad+chance.Intn(256))
			case 2:
				l = append(l, chance.Intn(api.MaxSym+1))
			default:
				l = append(l, edges[chance.Intn(len(edges))])
			}
		}
		quoted(t, l)
	}
}

// P1 and the rules of memory.

// Trees that aren't right have no promise but that the call ends, without a panic.
func TestShowWrongTrees(t *testing.T) {
	for _, x := range []ast.Tree{{}, {Names: []string{""}}, {Groups: -1}, {Nodes: []ast.Node{{}}}} {
		show.Show(x)
	}
	numbers := []int{math.MinInt, -1, 0, 1, 2, 8, math.MaxInt}
	for kind := -1; kind <= 11; kind++ {
		for _, kid := range numbers {
			for _, x := range numbers {
				n := ast.Node{Kind: kind, From: x, Num: x, Min: x, Max: x, Mode: x, Name: "(", Set: rr(x, kid, kid, x), Kids: []int{kid, x}}
				one, none := n, n
				one.Kids, one.Set, one.Name = []int{kid}, nil, ""
				none.Kids = nil
				for _, l := range [][]ast.Node{{n, n}, {one}, {one, one}, {one, none}, {none, n}, {n, none, none}, {n, one, one}} {
					for _, tree := range []ast.Tree{{Nodes: l}, whole(l...), {Nodes: l, Groups: x}} {
						show.Show(tree)
					}
				}
			}
		}
	}
}

// Kids that are shared, or go round, don't make it go on and on.
func TestShowEnds(t *testing.T) {
	var twice, round []ast.Node
	for i := range 200 {
		twice = append(twice, ast.Node{Kind: ast.Cat, Kids: []int{i + 1, i + 1}})
		round = append(round, ast.Node{Kind: ast.Alt, Kids: []int{i, (i + 1) % 200}})
	}
	twice = append(twice, ast.Node{Kind: ast.Set})
	show.Show(whole(twice...))
	show.Show(whole(round...))
	show.Show(whole(ast.Node{Kind: ast.Atomic, Kids: []int{0}}))
}

// Right trees that no pattern makes, some of them deep.
func TestShowTreesOfNoPattern(t *testing.T) {
	for _, n := range []ast.Node{
		{Kind: ast.Set, Set: rr(0xd900, 0xd900)},
		{Kind: ast.Set, Set: rr(0xd900, 0xda00)},
		{Kind: ast.Set, Set: rr(0, 0xd900, 0x110001, api.MaxSym)},
		{Kind: ast.Set, Set: rr(0xd800, 0xdfff, 0x110000, 0x110000)},
		{Kind: ast.Back, Name: ")(\xff"},
		{Kind: ast.Back, Num: 99, Name: "x"},
	} {
		x := whole(n)
		if !x.Right() {
			t.Fatalf("%+v", n)
		}
		show.Show(x)
	}
	const deep = 1 << 16
	for _, n := range []ast.Node{{Kind: ast.Atomic}, {Kind: ast.Repeat, Max: -1}, {Kind: ast.Look, Num: ast.NotBehind}, {Kind: ast.Group}} {
		var nodes []ast.Node
		for i := range deep {
			if n.Kind == ast.Group {
				n.Num = i + 1
			}
			n.Kids = []int{i + 1}
			nodes = append(nodes, n)
		}
		x := whole(append(nodes, ast.Node{Kind: ast.Empty})...)
		if !x.Right() {
			t.Fatalf("deep, of kind %d", n.Kind)
		}
		if s := show.Show(x); nest(s) != deep {
			t.Errorf("deep, of kind %d: %d", n.Kind, nest(s))
		}
	}
}

// What is handed in is left as it is, its spare room too.
func TestArgumentsAreLeft(t *testing.T) {
	const p = `(?m)(?<n>ab)[c-e]{1,3}?|^\k<n>*+.`
	x := parsed(t, p)
	for i, n := range x.Nodes {
		x.Nodes[i].Kids = append(slices.Clone(n.Kids), -5)[:len(n.Kids)]
		x.Nodes[i].Set = append(slices.Clone(n.Set), rset.Range{Lo: -5, Hi: -5})[:len(n.Set)]
	}
	room := append(slices.Clone(x.Nodes), ast.Node{Kind: -5, From: -5, To: -5})
	x.Nodes = room[:len(x.Nodes)]
	x.Names = append(slices.Clone(x.Names), "x")[:len(x.Names)]
	show.Show(x)
	y := parsed(t, p)
	if !ast.Same(x, y) || !slices.EqualFunc(x.Nodes, y.Nodes, func(m, n ast.Node) bool { return m.From == n.From && m.To == n.To }) {
		t.Error("the tree was changed")
	}
	for i, n := range x.Nodes {
		if n.Kids[:len(n.Kids)+1][len(n.Kids)] != -5 || n.Set[:len(n.Set)+1][len(n.Set)] != (rset.Range{Lo: -5, Hi: -5}) {
			t.Errorf("spare room of node %d", i)
		}
	}
	if last := room[len(room)-1]; last.Kind != -5 || last.From != -5 || last.To != -5 || x.Names[:len(x.Names)+1][len(x.Names)] != "x" {
		t.Error("spare room of the tree")
	}
	l := []int{'a', -1, '(', 0xd800, 'b', 'c'}
	was := slices.Clone(l)
	if show.Quote(l[:5]); !slices.Equal(l, was) {
		t.Error("the list was changed")
	}
}

// A call hangs on what it is given alone.
func TestAgain(t *testing.T) {
	x, y := parsed(t, "(?i)(?m)a^(?<n>b)\\1"), parsed(t, "a|^*+"[:3])
	first, second := show.Show(x), show.Show(y)
	for range 3 {
		if show.Show(x) != first || show.Show(y) != second || show.Quote([]int{'a'}) != show.Quote([]int{-1, 'a'}) {
			t.Error("another answer")
		}
	}
}
