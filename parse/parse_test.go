package parse_test

import (
	"bytes"
	"iter"
	"math/rand"
	"slices"
	"strconv"
	"strings"
	"testing"

	"clew/api"
	"clew/ast"
	"clew/class"
	"clew/fold"
	"clew/parse"
	"clew/rset"
)

// letters are the kinds' short names: Empty, Set, Hold, Back, Cat, Alt, Group, Repeat, aTomic, Look.
const letters = ".ESHBCAGRTL"

// line tells a node, and all that is in it: its kind's letter, its bytes, what else it has, and its kids.
func line(t ast.Tree, i int) string {
	n := t.Nodes[i]
	s := letters[n.Kind:n.Kind+1] + strconv.Itoa(n.From) + "-" + strconv.Itoa(n.To) + more(n)
	var kids []string
	for _, kid := range n.Kids {
		kids = append(kids, line(t, kid))
	}
	if len(kids) > 0 {
		s += "(" + strings.Join(kids, " ") + ")"
	}
	return s
}

// more tells a node's numbers, its name and its set.
func more(n ast.Node) string {
	s := ""
	switch n.Kind {
	case ast.Set:
		s = ":" + ranges(n.Set)
	case ast.Hold, ast.Back, ast.Group, ast.Look:
		s = ":" + strconv.Itoa(n.Num)
	case ast.Repeat:
		s = ":" + strconv.Itoa(n.Min) + "," + strconv.Itoa(n.Max)
	}
	if n.Name != "" {
		s += "<" + n.Name + ">"
	}
	return s + strings.Repeat("'", n.Mode)
}

// ranges tells a list, in hexadecimal digits; most as their names.
func ranges(l []rset.Range) string {
	var parts []string
	for _, r := range l {
		x := strconv.FormatInt(int64(r.Lo), 16)
		if r.Hi != r.Lo {
			x += "~" + strconv.FormatInt(int64(r.Hi), 16)
		}
		parts = append(parts, x)
	}
	return strings.Join(parts, ",")
}

// isTree holds what Parse tells of a pattern against a line.
func isTree(t *testing.T, p, want string) {
	t.Helper()
	x, e, at := parse.Parse([]byte(p))
	if e != api.OK || at != 0 {
		t.Errorf("Parse(%q): error %d at %d, want %s", p, e, at, want)
		return
	}
	if got := line(x, 0); got != want {
		t.Errorf("Parse(%q):\ngot  %s\nwant %s", p, got, want)
	}
	if !x.Right() {
		t.Errorf("Parse(%q) isn't right", p)
	}
}

// isWrong holds the error that Parse tells of a pattern, and all that stands beside it.
func isWrong(t *testing.T, p string, e api.Errno, at int) {
	t.Helper()
	x, f, place := parse.Parse([]byte(p))
	if f != e || place != at {
		t.Errorf("Parse(%.60q): error %d at %d, want %d at %d", p, f, place, e, at)
	}
	if len(x.Nodes) != 0 || x.Groups != 0 || len(x.Names) != 0 {
		t.Errorf("Parse(%.60q) tells a tree beside error %d", p, f)
	}
}

// each is what a table says of patterns.
func each(t *testing.T, table map[string]string) {
	t.Helper()
	for p, want := range table {
		isTree(t, p, want)
	}
}

// P8.1: alternatives and pieces.

func TestAlternatives(t *testing.T) {
	each(t, map[string]string{
		"":       "E0-0",
		"a":      "S0-1:61",
		"ab":     "C0-2(S0-1:61 S1-2:62)",
		"abc":    "C0-3(S0-1:61 S1-2:62 S2-3:63)",
		"|":      "A0-1(E0-0 E1-1)",
		"||":     "A0-2(E0-0 E1-1 E2-2)",
		"a|":     "A0-2(S0-1:61 E2-2)",
		"|a":     "A0-2(E0-0 S1-2:61)",
		"a|b":    "A0-3(S0-1:61 S2-3:62)",
		"ab||cd": "A0-6(C0-2(S0-1:61 S1-2:62) E3-3 C4-6(S4-5:63 S5-6:64))",
		// Within parentheses.
		"()":      "G0-2:1(E1-1)",
		"(|)":     "G0-3:1(A1-2(E1-1 E2-2))",
		"(a|b)c":  "C0-6(G0-5:1(A1-4(S1-2:61 S3-4:62)) S5-6:63)",
		"(?:a|)b": "C3-7(A3-5(S3-4:61 E5-5) S6-7:62)",
		"(?:)":    "E3-3",
		"(?:)a":   "C3-5(E3-3 S4-5:61)",
		"a(?:)":   "C0-4(S0-1:61 E4-4)",
		"a|(b|c)": "A0-7(S0-1:61 G2-7:1(A3-6(S3-4:62 S5-6:63)))",
		// What is in parentheses that are nothing themselves stays a node of its own.
		"(?:ab)c":      "C3-7(C3-5(S3-4:61 S4-5:62) S6-7:63)",
		"a(?:bc)":      "C0-6(S0-1:61 C4-6(S4-5:62 S5-6:63))",
		"(?:a|b)|c":    "A0-9(A3-6(S3-4:61 S5-6:62) S8-9:63)",
		"(?:(?:(ab)))": "G6-10:1(C7-9(S7-8:61 S8-9:62))",
		// An alternative begins right behind what is ahead of it, whatever its first piece is.
		"(?i)":          "E0-0",
		"(?i)|b":        "A0-6(E0-0 S5-6:42,62)",
		"a|(?#x)":       "A0-7(S0-1:61 E2-2)",
		"(?#x)a|b(?#y)": "A0-13(S5-6:61 S7-8:62)",
		"(?#x)ab(?#y)":  "C5-7(S5-6:61 S6-7:62)",
		"((?#x))":       "G0-7:1(E1-1)",
		"((?m)a|(?m))":  "G0-12:1(A1-11(S5-6:61 E7-7))",
		"(?i:)":         "E4-4",
		"(?i:|)":        "A4-5(E4-4 E5-5)",
		"a(?i)b":        "C0-6(S0-1:61 S5-6:42,62)",
	})
}

func TestQuantifiers(t *testing.T) {
	each(t, map[string]string{
		"a*": "R0-2:0,-1(S0-1:61)", "a+": "R0-2:1,-1(S0-1:61)", "a?": "R0-2:0,1(S0-1:61)",
		"a*?": "R0-3:0,-1'(S0-1:61)", "a+?": "R0-3:1,-1'(S0-1:61)", "a??": "R0-3:0,1'(S0-1:61)",
		"a*+": "T0-3(R0-3:0,-1(S0-1:61))", "a++": "T0-3(R0-3:1,-1(S0-1:61))", "a?+": "T0-3(R0-3:0,1(S0-1:61))",
		"a{3}": "R0-4:3,3(S0-1:61)", "a{3,}": "R0-5:3,-1(S0-1:61)", "a{3,5}": "R0-6:3,5(S0-1:61)", "a{0,1}": "R0-6:0,1(S0-1:61)", "a{1}": "R0-4:1,1(S0-1:61)",
		"a{3}?": "R0-5:3,3'(S0-1:61)", "a{3,}?": "R0-6:3,-1'(S0-1:61)", "a{3,5}+": "T0-7(R0-7:3,5(S0-1:61))",
		"a{1000}": "R0-7:1000,1000(S0-1:61)", "a{0,1000}": "R0-9:0,1000(S0-1:61)", "a{007}": "R0-6:7,7(S0-1:61)",
		// Just the last atom is repeated.
		"ab*":     "C0-3(S0-1:61 R1-3:0,-1(S1-2:62))",
		"a*b":     "C0-3(R0-2:0,-1(S0-1:61) S2-3:62)",
		"a*b+c?":  "C0-6(R0-2:0,-1(S0-1:61) R2-4:1,-1(S2-3:62) R4-6:0,1(S4-5:63))",
		"a|b*":    "A0-4(S0-1:61 R2-4:0,-1(S2-3:62))",
		"\u00e9*": "R0-3:0,-1(S0-2:e9)",
		"\\x41*":  "R0-5:0,-1(S0-4:41)",
		"[a]*":    "R0-4:0,-1(S0-3:61)",
		".*":      "R0-2:0,-1(S0-1:0~9,b~1100ff)",
		"\\d+":    "R0-3:1,-1(S0-2:30~39)",
		"\\1*":    "R0-3:0,-1(B0-2:1)",
		"\\k<a>*": "R0-6:0,-1(B0-5:0<a>)",
		// A repeat begins with the parenthesis.
		"(a)*":            "R0-4:0,-1(G0-3:1(S1-2:61))",
		"(?:a)*":          "R0-6:0,-1(S3-4:61)",
		"(?:ab)*":         "R0-7:0,-1(C3-5(S3-4:61 S4-5:62))",
		"(?:a|b)*+":       "T0-9(R0-9:0,-1(A3-6(S3-4:61 S5-6:62)))",
		"(?i:a)*":         "R0-7:0,-1(S4-5:41,61)",
		"(?:)*":           "R0-5:0,-1(E3-3)",
		"(?>a)+":          "R0-6:1,-1(T0-5(S3-4:61))",
		"(?=a)?":          "R0-6:0,1(L0-5:1(S3-4:61))",
		"(?<!a){2}":       "R0-9:2,2(L0-6:4(S4-5:61))",
		"(?<n>a)*":        "R0-8:0,-1(G0-7:1<n>(S5-6:61))",
		"x(?:a)*y":        "C0-8(S0-1:78 R1-7:0,-1(S4-5:61) S7-8:79)",
		"(?:(?:a)*)*":     "R0-11:0,-1(R3-9:0,-1(S6-7:61))",
		"(?:a*)*":         "R0-7:0,-1(R3-5:0,-1(S3-4:61))",
		"(?:a*+)?":        "R0-8:0,1(T3-6(R3-6:0,-1(S3-4:61)))",
		"(?:a)*(?:b)":     "C0-10(R0-6:0,-1(S3-4:61) S9-10:62)",
		"a|(b)*+":         "A0-7(S0-1:61 T2-7(R2-7:0,-1(G2-5:1(S3-4:62))))",
		"(?:^)*":          "R0-6:0,-1(H3-4:1)",
		"(?:\\b)?":        "R0-7:0,1(H3-5:6)",
		"(?:(?i))*":       "R0-9:0,-1(E3-3)",
		"(?:(?#x))*":      "R0-10:0,-1(E3-3)",
		"a*(?#x)b*":       "C0-9(R0-2:0,-1(S0-1:61) R7-9:0,-1(S7-8:62))",
		"\\**\\{{2}\\\\+": "C0-11(R0-3:0,-1(S0-2:2a) R3-8:2,2(S3-5:7b) R8-11:1,-1(S8-10:5c))",
	})
}

func TestBracesThatAreNone(t *testing.T) {
	for _, p := range []string{"{", "{}", "{a}", "{,}", "{,2}", "{2", "{2,", "{2,3", "{-1}", "{ 2}", "{2 }", "{2;3}", "{2,3,4}", "}", "]", "{1001", "{0,x}", "{\u0662}", "x}2{"} {
		for _, ahead := range []string{"", "a", "a|", "a*", "(?i)", "^"} {
			for _, sign := range []string{p, p + "?"} {
				want := 0
				for range []rune(p) {
					want++
				}
				x, e, at := parse.Parse([]byte(ahead + sign))
				if e != api.OK {
					t.Errorf("Parse(%q): error %d at %d", ahead+sign, e, at)
					continue
				}
				sets := 0
				for _, n := range x.Nodes {
					if n.Kind == ast.Set && n.From >= len(ahead) {
						sets++
					}
				}
				if sets != want {
					t.Errorf("Parse(%q): %s", ahead+sign, line(x, 0))
				}
			}
		}
	}
}

// P8.1: atoms.

func TestAtoms(t *testing.T) {
	const dot, all = "0~9,b~1100ff", "0~1100ff"
	each(t, map[string]string{
		".": "S0-1:" + dot, "(?s).": "S4-5:" + all, "(?s-s).": "S6-7:" + dot, "(?is).": "S5-6:" + all,
		"[a-c]": "S0-5:61~63", "[^a]": "S0-4:0~60,62~1100ff", "[]a]": "S0-4:5d,61", "[[:digit:]]": "S0-11:30~39", "[\\b]": "S0-4:8", "[(|*)]": "S0-6:28~2a,7c",
		"(?i)[a]": "S4-7:41,61", "(?i)[^k]": "S4-8:0~4a,4c~6a,6c~2129,212b~1100ff", "[^\\x00-\\x{1100ff}]": "S0-18:", "(?i)[K-K]": "S4-9:4b,6b,212a",
		"\\n": "S0-2:a", "\\x41": "S0-4:41", "\\x{10FFFF}": "S0-10:10ffff", "\\x{1100ff}": "S0-10:1100ff", "\\.": "S0-2:2e", "\\(": "S0-2:28", "\\\u00e9": "S0-3:e9", "\\\xff": "S0-2:1100ff", "\\_": "S0-2:5f", "\\ ": "S0-2:20",
		"\\d": "S0-2:30~39", "\\W": "S0-2:0~2f,3a~40,5b~5e,60,7b~1100ff", "\\s\\S": "C0-4(S0-2:9~d,20 S2-4:0~8,e~1f,21~1100ff)",
		"(?i)\\x4b": "S4-8:4b,6b,212a", "(?i)\\n": "S4-6:a", "(?i)\\w": "S4-6:30~39,41~5a,5f,61~7a,17f,212a", "(?i)\\W": "S4-6:0~2f,3a~40,4b,53,5b~5e,60,6b,73,7b~1100ff", "(?i)\\d": "S4-6:30~39",
		"\\A": "H0-2:1", "\\Z": "H0-2:2", "\\z": "H0-2:3", "\\b": "H0-2:6", "\\B": "H0-2:7", "(?im)\\A\\Z": "C5-9(H5-7:1 H7-9:2)",
		"^": "H0-1:1", "$": "H0-1:2", "(?m)^": "H4-5:4", "(?m)$": "H4-5:5", "^$": "C0-2(H0-1:1 H1-2:2)", "(?isx)^$": "C6-8(H6-7:1 H7-8:2)", "^a$": "C0-3(H0-1:1 S1-2:61 H2-3:2)", "a^b$c": "C0-5(S0-1:61 H1-2:1 S2-3:62 H3-4:2 S4-5:63)", "^^": "C0-2(H0-1:1 H1-2:1)",
		"\\1": "B0-2:1", "\\99": "B0-3:99", "\\100": "C0-4(B0-3:10 S3-4:30)", "\\10": "B0-3:10", "(?i)\\1": "B4-6:1'", "(?i-i)\\1": "B6-8:1", "(a)\\1": "C0-5(G0-3:1(S1-2:61) B3-5:1)",
		"a": "S0-1:61", "\u00e9": "S0-2:e9", "\u212a": "S0-3:212a", "\U0010ffff": "S0-4:10ffff", "\xff": "S0-1:1100ff", "\xc3": "S0-1:1100c3", "\x80": "S0-1:110080", "\x00": "S0-1:0", "\n": "S0-1:a", " ": "S0-1:20", "#": "S0-1:23", "-": "S0-1:2d", "]": "S0-1:5d", "}": "S0-1:7d", "{": "S0-1:7b", "\"": "S0-1:22", ",": "S0-1:2c",
		"a]": "C0-2(S0-1:61 S1-2:5d)", "a{,2}": "C0-5(S0-1:61 S1-2:7b S2-3:2c S3-4:32 S4-5:7d)", "\xed\xa0\x80": "C0-3(S0-1:1100ed S1-2:1100a0 S2-3:110080)", "\xc3\xa9\xc3": "C0-3(S0-2:e9 S2-3:1100c3)",
		"(?i)K": "S4-5:4b,6b,212a", "(?i)\u212a": "S4-7:4b,6b,212a", "(?i)1": "S4-5:31", "(?i)\xff": "S4-5:1100ff", "(?i)\u03c2": "S4-6:3a3,3c2~3c3", "(?i).": "S4-5:" + dot,
		"(a)": "G0-3:1(S1-2:61)", "(a(b))(c)": "C0-9(G0-6:1(C1-5(S1-2:61 G2-5:2(S3-4:62))) G6-9:3(S7-8:63))", "((((a))))": "G0-9:1(G1-8:2(G2-7:3(G3-6:4(S4-5:61))))",
		"(?<n>a)": "G0-7:1<n>(S5-6:61)", "(?<n>)": "G0-6:1<n>(E5-5)", "(a)(?<n>b)(c)": "C0-13(G0-3:1(S1-2:61) G3-10:2<n>(S8-9:62) G10-13:3(S11-12:63))",
		"(?:a)": "S3-4:61", "(?>a)": "T0-5(S3-4:61)", "(?>)": "T0-4(E3-3)", "(?>a|ab)c": "C0-9(T0-8(A3-7(S3-4:61 C5-7(S5-6:61 S6-7:62))) S8-9:63)",
		"(?=a)": "L0-5:1(S3-4:61)", "(?!a)": "L0-5:2(S3-4:61)", "(?<=a)": "L0-6:3(S4-5:61)", "(?<!a)": "L0-6:4(S4-5:61)", "(?=)": "L0-4:1(E3-3)", "(?<!)": "L0-5:4(E4-4)", "(?<=a|b)c": "C0-9(L0-8:3(A4-7(S4-5:61 S6-7:62)) S8-9:63)",
		"(?#a(b[\\)c": "S9-10:63", "(?#)": "E0-0", "(?#a)b": "S5-6:62", "a(?#*)b": "C0-7(S0-1:61 S6-7:62)", "(?#(?#)a": "S7-8:61", "(?##)a": "S5-6:61",
	})
}

// Each byte alone, and as an atom that is repeated.
func TestBytes(t *testing.T) {
	for c := range 256 {
		p := string([]byte{byte(c)})
		switch c {
		case '(', ')', '*', '+', '?', '[', '\\', '|', '^', '$', '.':
			continue
		}
		x := c
		if c >= 0x80 {
			x += api.Bad
		}
		for _, f := range []struct {
			ahead string
			set   []rset.Range
		}{{"", rset.Of(x)}, {"(?i)", fold.Close(rset.Of(x))}, {"(?ims)", fold.Close(rset.Of(x))}} {
			n := len(f.ahead)
			set := "S" + strconv.Itoa(n) + "-" + strconv.Itoa(n+1) + ":" + ranges(f.set)
			isTree(t, f.ahead+p, set)
			isTree(t, f.ahead+p+"+", "R"+strconv.Itoa(n)+"-"+strconv.Itoa(n+2)+":1,-1("+set+")")
		}
	}
}

func TestBackNames(t *testing.T) {
	each(t, map[string]string{
		"(?<a>x)\\k<a>":      "C0-12(G0-7:1<a>(S5-6:78) B7-12:1<a>)",
		"\\k<a>(?<a>x)":      "C0-12(B0-5:1<a> G5-12:1<a>(S10-11:78))",
		"(?<a>\\k<a>)":       "G0-11:1<a>(B5-10:1<a>)",
		"\\k<b>(x)(?<b>y)":   "C0-15(B0-5:2<b> G5-8:1(S6-7:78) G8-15:2<b>(S13-14:79))",
		"\\k<b>(?<a>x)":      "C0-12(B0-5:0<b> G5-12:1<a>(S10-11:78))",
		"\\k<a>":             "B0-5:0<a>",
		"(a)\\k<A>(?<a>b)":   "C0-15(G0-3:1(S1-2:61) B3-8:0<A> G8-15:2<a>(S13-14:62))",
		"(?i)\\k<a>":         "B4-9:0<a>'",
		"(?i)\\k<a>(?<a>)":   "C4-15(B4-9:1<a>' G9-15:1<a>(E14-14))",
		"\\k<a>|(?<a>x)|\\1": "A0-16(B0-5:1<a> G6-13:1<a>(S11-12:78) B14-16:1)",
	})
	x, _, _ := parse.Parse([]byte("(a)(?<n>b)(?:(c)(?<_9>d))\\k<none>"))
	if x.Groups != 4 || !slices.Equal(x.Names, []string{"", "", "n", "", "_9"}) {
		t.Errorf("%d, %q", x.Groups, x.Names)
	}
	if x, _, _ := parse.Parse(nil); x.Groups != 0 || !slices.Equal(x.Names, []string{""}) {
		t.Errorf("%d, %q", x.Groups, x.Names)
	}
}

// P8.1: flags.

func TestFlags(t *testing.T) {
	const small, both = ":61", ":41,61"
	each(t, map[string]string{
		// To the end of what they are set in, beyond its alternatives.
		"(?i)aa":           "C4-6(S4-5" + both + " S5-6" + both + ")",
		"a(?i)a":           "C0-6(S0-1" + small + " S5-6" + both + ")",
		"(?i)a|a":          "A0-7(S4-5" + both + " S6-7" + both + ")",
		"a(?i)|a":          "A0-7(S0-1" + small + " S6-7" + both + ")",
		"((?i)a)a":         "C0-8(G0-7:1(S5-6" + both + ") S7-8" + small + ")",
		"((?i)a|a)a":       "C0-10(G0-9:1(A1-8(S5-6" + both + " S7-8" + both + ")) S9-10" + small + ")",
		"(?:(?i)a)a":       "C7-10(S7-8" + both + " S9-10" + small + ")",
		"(?>(?i)a)a":       "C0-10(T0-9(S7-8" + both + ") S9-10" + small + ")",
		"(?=(?i)a)a":       "C0-10(L0-9:1(S7-8" + both + ") S9-10" + small + ")",
		"(?<!(?i)a)a":      "C0-11(L0-10:4(S8-9" + both + ") S10-11" + small + ")",
		"(?<n>(?i)a)a":     "C0-12(G0-11:1<n>(S9-10" + both + ") S11-12" + small + ")",
		"(?s:(?i)a)a":      "C8-11(S8-9" + both + " S10-11" + small + ")",
		"(?i)(a)":          "G4-7:1(S5-6" + both + ")",
		"(?i)(?:(?>(a)))a": "C7-16(T7-14(G10-13:1(S11-12" + both + ")) S15-16" + both + ")",
		"(?i)((?-i)a)a":    "C4-13(G4-12:1(S10-11" + small + ") S12-13" + both + ")",
		// With a colon, within alone.
		"(?i:a)a":       "C4-7(S4-5" + both + " S6-7" + small + ")",
		"(?i:a|a)a":     "C4-9(A4-7(S4-5" + both + " S6-7" + both + ") S8-9" + small + ")",
		"(?i)(?-i:a)a":  "C9-12(S9-10" + small + " S11-12" + both + ")",
		"(?i:(?-i)a)a":  "C9-12(S9-10" + small + " S11-12" + small + ")",
		"(?i:a(?-i)a)a": "C4-13(C4-11(S4-5" + both + " S10-11" + small + ") S12-13" + small + ")",
		// What is set, and what is no longer.
		"(?ii)a":            "S5-6" + both,
		"(?i-i)a":           "S6-7" + small,
		"(?-i)a":            "S5-6" + small,
		"(?-i:a)":           "S5-6" + small,
		"(?i)(?i)a":         "S8-9" + both,
		"(?i)(?s)a":         "S8-9" + both,
		"(?i)(?-s)a":        "S9-10" + both,
		"(?i)(?-imsx)a":     "S12-13" + small,
		"(?ims-ims)a":       "S10-11" + small,
		"(?mi-ms)^a.":       "C8-11(H8-9:1 S9-10" + both + " S10-11:0~9,b~1100ff)",
		"(?ms-i)^a.":        "C7-10(H7-8:4 S8-9" + small + " S9-10:0~1100ff)",
		"(?smixxims)^.$":    "C11-14(H11-12:4 S12-13:0~1100ff H13-14:5)",
		"(?s)(?m-s)^.$":     "C10-13(H10-11:4 S11-12:0~9,b~1100ff H12-13:5)",
		"(?m)(?s-m:^.$)^.$": "C10-17(C10-13(H10-11:1 S11-12:0~1100ff H12-13:2) H14-15:4 S15-16:0~9,b~1100ff H16-17:5)",
		// They neither change what a group is, nor what a remark is.
		"(?imsx)(a)(?#b)": "G7-10:1(S8-9" + both + ")",
	})
}

func TestWide(t *testing.T) {
	each(t, map[string]string{
		"(?x)":                     "E0-0",
		"(?x) ":                    "E0-0",
		"(?x) a ":                  "S5-6:61",
		"(?x) a b ":                "C5-8(S5-6:61 S7-8:62)",
		"(?x)\t\n\v\f\r a":         "S10-11:61",
		"(?x)a # b\n c":            "C4-12(S4-5:61 S11-12:63)",
		"(?x)a#b":                  "S4-5:61",
		"(?x)a#)|(\nb":             "C4-11(S4-5:61 S10-11:62)",
		"(?x)##\n#\n a # b\n#":     "S10-11:61",
		"(?x) a | b ":              "A0-11(S5-6:61 S9-10:62)",
		"(?x)| ":                   "A0-6(E0-0 E5-5)",
		"(?x) | ":                  "A0-7(E0-0 E6-6)",
		"(?x)( a )":                "G4-9:1(S6-7:61)",
		"(?x)( )":                  "G4-7:1(E5-5)",
		"(?x)( | )":                "G4-9:1(A5-8(E5-5 E7-7))",
		"(?x)(?: a )b":             "C8-12(S8-9:61 S11-12:62)",
		"(?x)(?<n> a )":            "G4-13:1<n>(S10-11:61)",
		"(?x)(?= a )":              "L4-11:1(S8-9:61)",
		"(?x: a ) b":               "C5-10(S5-6:61 S8-9:20 S9-10:62)",
		"(?x: )":                   "E4-4",
		"(?x: | )":                 "A4-7(E4-4 E6-6)",
		"( (?x) a ) ":              "C0-11(G0-10:1(C1-8(S1-2:20 S7-8:61)) S10-11:20)",
		"a (?x) b":                 "C0-8(S0-1:61 S1-2:20 S7-8:62)",
		"(?x) a (?-x) b":           "C5-14(S5-6:61 S12-13:20 S13-14:62)",
		"(?x)(?-x: a) b":           "C9-14(C9-11(S9-10:20 S10-11:61) S13-14:62)",
		"(?x) (?#b) a":             "S11-12:61",
		"(?x)\\ \\#a":              "C4-9(S4-6:20 S6-8:23 S8-9:61)",
		"(?x)[ #]":                 "S4-8:20,23",
		"(?x)\u00a0":               "S4-6:a0",
		"(?x)\x00\x08\x0e":         "C4-7(S4-5:0 S5-6:8 S6-7:e)",
		"(?x)a{2 }":                "C4-9(S4-5:61 S5-6:7b S6-7:32 S8-9:7d)",
		"(?x)\\1 1":                "C4-8(B4-6:1 S7-8:31)",
		" # ":                      "C0-3(S0-1:20 S1-2:23 S2-3:20)",
		"(?i) a":                   "C4-6(S4-5:20 S5-6:41,61)",
		"(?x)^ a $":                "C4-9(H4-5:1 S6-7:61 H8-9:2)",
		"(?x)a *":                  "R4-7:0,-1(S4-5:61)",
		"(?x)a\n# b\n *?b":         "C4-14(R4-13:0,-1'(S4-5:61) S13-14:62)",
		"(?x) a # b\n {2,3}+ b":    "C5-20(T5-18(R5-18:2,3(S5-6:61)) S19-20:62)",
		"(?x)(a) *":                "R4-9:0,-1(G4-7:1(S5-6:61))",
		"(?x)(?: a ) +|b":          "A0-15(R4-13:1,-1(S8-9:61) S14-15:62)",
		"(?x)a* b":                 "C4-8(R4-6:0,-1(S4-5:61) S7-8:62)",
		"(?x)(?-x:a) *":            "R4-13:0,-1(S9-10:61)",
		"(?x:a) *":                 "C4-8(S4-5:61 R6-8:0,-1(S6-7:20))",
		"(?x)a(?-x) *":             "C4-12(S4-5:61 R10-12:0,-1(S10-11:20))",
		"(?x)(?i) a (?i)|b (?#c) ": "A0-24(S9-10:41,61 S16-17:42,62)",
	})
}

// P8.1: errors.

// errors are wrong patterns of all kinds, with the places that the chapter says.
var errors = map[string]wrong{
	// Layer 7's, of a backslash.
	"\\": {api.ErrEscape, 0}, "a\\": {api.ErrEscape, 1}, "a\\q": {api.ErrEscape, 1}, "\\0": {api.ErrEscape, 0}, "\\x4": {api.ErrEscape, 0}, "(\\x{d800})": {api.ErrEscape, 1}, "(?i)\\x{110000}": {api.ErrEscape, 4}, "\\k": {api.ErrName, 0}, "\\k<": {api.ErrName, 0}, "a\\k<>": {api.ErrName, 1}, "a\\k<1>": {api.ErrName, 1}, "\\k<a": {api.ErrName, 0}, "\\k{a}": {api.ErrName, 0}, "(?x)\\k <a>": {api.ErrName, 4},
	// Of a quantifier.
	"a{0}": {api.ErrCount, 1}, "a{0}?": {api.ErrCount, 1}, "a{0,0}": {api.ErrCount, 1}, "a{1001}": {api.ErrCount, 1}, "a{1001,}": {api.ErrCount, 1}, "a{0,1001}": {api.ErrCount, 1}, "ab{3,2}": {api.ErrCount, 2}, "(a){2,1}": {api.ErrCount, 3}, "a{99999999999999999999}": {api.ErrCount, 1}, "(?x)a {0}": {api.ErrCount, 6}, "(?x)a#\n{0}": {api.ErrCount, 7},
	// Of a class.
	"[": {api.ErrClass, 0}, "a[b": {api.ErrClass, 1}, "a[]": {api.ErrClass, 1}, "[z-a]": {api.ErrClass, 1}, "a[b[:no:]]": {api.ErrClass, 3}, "[a\\q]": {api.ErrEscape, 2}, "([a-\\k<n>])": {api.ErrEscape, 4}, "(?i)[ba-Z]": {api.ErrClass, 6}, "[a-\\d]": {api.ErrClass, 1},
	// Names of groups.
	"(?<": {api.ErrName, 3}, "(?<>a)": {api.ErrName, 3}, "(?<1>a)": {api.ErrName, 3}, "a(?<n": {api.ErrName, 4}, "(?<n a>)": {api.ErrName, 3}, "(?<n-a>)": {api.ErrName, 3}, "(?<\u00e9>)": {api.ErrName, 3}, "(?x)(?< n>)": {api.ErrName, 7}, "(?<n)": {api.ErrName, 3},
	"(?<a>)(?<a>)": {api.ErrTwice, 9}, "(?<a>(?<a>))": {api.ErrTwice, 8}, "(?<a>)(?<b>)|(?<a>)": {api.ErrTwice, 16}, "(?<a>)(?<a>": {api.ErrTwice, 9}, "(?<a>)(?<a>*": {api.ErrTwice, 9},
	// Nothing to be repeated.
	"*": {api.ErrRepeat, 0}, "+": {api.ErrRepeat, 0}, "?": {api.ErrRepeat, 0}, "{2}": {api.ErrRepeat, 0}, "{2,}+": {api.ErrRepeat, 0}, "a|*": {api.ErrRepeat, 2}, "|+": {api.ErrRepeat, 1}, "(*a)": {api.ErrRepeat, 1}, "(a|?)": {api.ErrRepeat, 3}, "(?:+)": {api.ErrRepeat, 3}, "(?>{1})": {api.ErrRepeat, 3}, "(?<=*)": {api.ErrRepeat, 4}, "(?<n>*)": {api.ErrRepeat, 5}, "(?i:*)": {api.ErrRepeat, 4}, "(?x) *": {api.ErrRepeat, 5}, "(?x)( #*\n*)": {api.ErrRepeat, 9}, "(?x)a |\n{2}": {api.ErrRepeat, 8},
	"^*": {api.ErrRepeat, 1}, "$+": {api.ErrRepeat, 1}, "a^{2}": {api.ErrRepeat, 2}, "\\b+": {api.ErrRepeat, 2}, "\\B?": {api.ErrRepeat, 2}, "\\A*": {api.ErrRepeat, 2}, "\\Z{1,2}": {api.ErrRepeat, 2}, "\\z*?": {api.ErrRepeat, 2}, "(?m)^*": {api.ErrRepeat, 5}, "(?x)^ *": {api.ErrRepeat, 6},
	"(?i)*": {api.ErrRepeat, 4}, "a(?i)*": {api.ErrRepeat, 5}, "a(?-i){2}": {api.ErrRepeat, 6}, "(?#a)*": {api.ErrRepeat, 5}, "a(?#b)?": {api.ErrRepeat, 6}, "a (?x) *": {api.ErrRepeat, 7}, "(?x)a(?#b) +": {api.ErrRepeat, 11},
	"a**": {api.ErrRepeat, 2}, "a*?*": {api.ErrRepeat, 3}, "a*??": {api.ErrRepeat, 3}, "a*++": {api.ErrRepeat, 3}, "a{2}{3}": {api.ErrRepeat, 4}, "a+{2,}": {api.ErrRepeat, 2}, "(a)+*": {api.ErrRepeat, 4}, "(?x)a* *": {api.ErrRepeat, 7}, "(?x)a* ?": {api.ErrRepeat, 7}, "(?x)a*#b\n+": {api.ErrRepeat, 9}, "a*(?#b)*": {api.ErrRepeat, 7}, "a*(?i)+": {api.ErrRepeat, 6},
	// A wrong quantifier is its own error, but behind another one.
	"{0}": {api.ErrCount, 0}, "a|{0}": {api.ErrCount, 2}, "({2,1})": {api.ErrCount, 1}, "{1001}": {api.ErrCount, 0}, "(?x) {0}": {api.ErrCount, 5}, "^{0}": {api.ErrCount, 1}, "\\b{0}": {api.ErrCount, 2}, "(?i){0}": {api.ErrCount, 4}, "(?#a){0}": {api.ErrCount, 5}, "a*(?#b){0}": {api.ErrCount, 7}, "a*|{0}": {api.ErrCount, 3},
	"a*{0}": {api.ErrRepeat, 2}, "a*?{0}": {api.ErrRepeat, 3}, "a{2}{3,2}": {api.ErrRepeat, 4}, "a++{1001}": {api.ErrRepeat, 3}, "(?x)a* {0}": {api.ErrRepeat, 7}, "(?x)a*#\n{0}": {api.ErrRepeat, 8},
	// Flags.
	"(?": {api.ErrFlag, 2}, "(?)": {api.ErrFlag, 2}, "(?i": {api.ErrFlag, 3}, "(?i-": {api.ErrFlag, 4}, "(?i-m": {api.ErrFlag, 5}, "(?-": {api.ErrFlag, 3}, "(?-)": {api.ErrFlag, 3}, "(?-:a)": {api.ErrFlag, 3}, "(?i-)": {api.ErrFlag, 4}, "(?i-:a)": {api.ErrFlag, 4}, "(?i-m-s)": {api.ErrFlag, 5}, "(?--i)": {api.ErrFlag, 3}, "(?i--m)": {api.ErrFlag, 4}, "(?q)": {api.ErrFlag, 2}, "(?iq)": {api.ErrFlag, 3}, "(?i-q)": {api.ErrFlag, 4}, "(?i-mq)": {api.ErrFlag, 5}, "(?I)": {api.ErrFlag, 2}, "(?\u0131)": {api.ErrFlag, 2}, "(?i )": {api.ErrFlag, 3}, "(?*)": {api.ErrFlag, 2}, "(?P<n>)": {api.ErrFlag, 2}, "a(?(b": {api.ErrFlag, 3}, "(?i|a)": {api.ErrFlag, 3}, "(?x)(? i)": {api.ErrFlag, 6}, "(?i>a)": {api.ErrFlag, 3}, "((?": {api.ErrFlag, 3}, "(?|a)": {api.ErrFlag, 2}, "(?\xff)": {api.ErrFlag, 2}, "(?imsx\x00": {api.ErrFlag, 6},
	// Parentheses.
	"(": {api.ErrParen, 0}, "a(": {api.ErrParen, 1}, "(a|b": {api.ErrParen, 0}, "(a(b)": {api.ErrParen, 0}, "(a)(": {api.ErrParen, 3}, "(?:": {api.ErrParen, 0}, "(?:a": {api.ErrParen, 0}, "x(?>a": {api.ErrParen, 1}, "(?=": {api.ErrParen, 0}, "(?!a": {api.ErrParen, 0}, "(?<=a": {api.ErrParen, 0}, "(?<!": {api.ErrParen, 0}, "(?<n>": {api.ErrParen, 0}, "(?i:a": {api.ErrParen, 0}, "(\\)": {api.ErrParen, 0}, "([)]": {api.ErrParen, 0}, "(?x)(#)": {api.ErrParen, 4}, "(a(?#b)": {api.ErrParen, 0},
	"(?#": {api.ErrParen, 0}, "(?#a": {api.ErrParen, 0}, "ab(?#(c": {api.ErrParen, 2}, "(?#a\\": {api.ErrParen, 0},
	")": {api.ErrParen, 0}, "a)": {api.ErrParen, 1}, "a|)": {api.ErrParen, 2}, "(a))": {api.ErrParen, 3}, "(a)*)": {api.ErrParen, 4}, "a*)": {api.ErrParen, 2}, "(?i))": {api.ErrParen, 4}, "(?#a))": {api.ErrParen, 5}, "(?x) )": {api.ErrParen, 5}, "(?#(a))": {api.ErrParen, 6}, "()))": {api.ErrParen, 2},
	// The one that isn't closed is the last one that was opened.
	"((": {api.ErrParen, 1}, "(a(b": {api.ErrParen, 2}, "(()(?=": {api.ErrParen, 3}, "(a(?#b": {api.ErrParen, 2},
}

func TestWrong(t *testing.T) {
	for p, w := range errors {
		isWrong(t, p, w.e, w.at)
	}
}

// What stands ahead moves the place, and what is right there changes nothing of it.
func TestWrongBehind(t *testing.T) {
	for _, ahead := range []string{"a", "\u00e9|", "(a)", "(?#(\\)", "a*b", "[)]", "\\(", "(?<other>a)(?:b)*"} {
		for p, w := range errors {
			// A quantifier at the beginning would be one of what is ahead.
			if strings.ContainsRune("*+?{", rune(p[0])) {
				p, w.at = "|"+p, w.at+1
			}
			isWrong(t, ahead+p, w.e, w.at+len(ahead))
			isWrong(t, "(?:"+ahead+")"+p, w.e, w.at+len(ahead)+4)
		}
	}
}

// Of two errors the one that is met first is told.
func TestFirst(t *testing.T) {
	for p, w := range errors {
		// What a pattern that ends too early is wrong with is met at its end.
		if w.e == api.ErrParen && p[w.at] == '(' || w.at >= len(p)-1 || w.e == api.ErrClass || strings.Contains(p, "(?x") {
			continue
		}
		for _, behind := range []string{"*)", ")", "\\q", "[z-a]", "(?q)", "{0}", "(", "(?#", "(?<1>)"} {
			isWrong(t, p+"|a"+behind, w.e, w.at)
		}
	}
	for p, w := range map[string]wrong{
		"(*": {api.ErrRepeat, 1}, "(\\q": {api.ErrEscape, 1}, "([": {api.ErrClass, 1}, "((?q": {api.ErrFlag, 3}, "(a{0}": {api.ErrCount, 2}, "a)*": {api.ErrParen, 1}, "a)(": {api.ErrParen, 1}, "*)": {api.ErrRepeat, 0}, ")\\q": {api.ErrParen, 0}, "(?<a>)(?<a>\\q": {api.ErrTwice, 9}, "(?<1>\\q)": {api.ErrName, 3}, "a{0}{0}": {api.ErrCount, 1}, "a{0}*": {api.ErrCount, 1}, "(?i:\\q": {api.ErrEscape, 4}, "(?iq\\q": {api.ErrFlag, 3}, "(?#a\\q": {api.ErrParen, 0}, "\\q(?#a": {api.ErrEscape, 0}, "[a\\q": {api.ErrEscape, 2}, "(?:a|b*+*": {api.ErrRepeat, 8},
	} {
		isWrong(t, p, w.e, w.at)
	}
}

// P8.1: limits.

func TestLong(t *testing.T) {
	for _, sign := range []string{"a", "|", "^", "."} {
		x, e, at := parse.Parse([]byte(strings.Repeat(sign, 4096)))
		if e != api.OK || at != 0 || !x.Right() || x.Nodes[0].To != 4096 || len(x.Nodes) < 4097 {
			t.Errorf("4096 of %q: %d at %d, %d nodes", sign, e, at, len(x.Nodes))
		}
	}
	for _, sign := range []string{"a", "|", "(", ")", "*", "\\", "[", "\xff"} {
		isWrong(t, strings.Repeat(sign, 4097), api.ErrLong, 0)
	}
	isWrong(t, strings.Repeat("a", 4096)+")", api.ErrLong, 0)
	isWrong(t, strings.Repeat("a", 4095)+")", api.ErrParen, 4095)
	isWrong(t, strings.Repeat("a", 1<<20), api.ErrLong, 0)
	isTree(t, "(?#"+strings.Repeat("(", 4092)+")", "E0-0")
}

// opens are the beginnings of parentheses in which something stands.
var opens = []string{"(", "(?:", "(?>", "(?=", "(?!", "(?<=", "(?<!", "(?i:", "(?s-i:"}

func TestDeep(t *testing.T) {
	for _, open := range opens {
		ahead := strings.Repeat(open, 100)
		if open == "(" {
			// Groups may not be as many.
			ahead = strings.Repeat(open, 99) + "(?:"
		}
		closed := strings.Repeat(")", 100)
		x, e, at := parse.Parse([]byte(ahead + "a" + closed))
		if e != api.OK || !x.Right() {
			t.Errorf("100 of %q: %d at %d", open, e, at)
		}
		// Those that were closed don't count.
		x, e, at = parse.Parse([]byte(ahead + "a" + closed + "(?:(?:a)*)"))
		if e != api.OK || !x.Right() {
			t.Errorf("100 of %q, and one behind: %d at %d", open, e, at)
		}
		for _, inner := range append([]string{"(?<n>", "(?i)", "(?#a)", "(?#", "(?", "(?q)", "(?<1>"}, opens...) {
			isWrong(t, ahead+inner+closed, api.ErrDeep, len(ahead))
			isWrong(t, ahead+"a|"+inner, api.ErrDeep, len(ahead)+2)
		}
		for _, inner := range []string{"\\(", "[(]"} {
			if _, e, at := parse.Parse([]byte(ahead + inner + closed)); e != api.OK {
				t.Errorf("%q within 100 of %q: %d at %d", inner, open, e, at)
			}
		}
		isWrong(t, ahead+"*", api.ErrRepeat, len(ahead))
		isWrong(t, ahead, api.ErrParen, strings.LastIndex(ahead, "("))
	}
	// Within 99, flags and remarks may be.
	isTree(t, strings.Repeat("(?:", 99)+"(?i)(?#b)a"+strings.Repeat(")", 99), "S306-307:41,61")
	isTree(t, strings.Repeat("(?:", 99)+"(?:a)"+strings.Repeat(")", 99), "S300-301:61")
}

func TestMany(t *testing.T) {
	many := strings.Repeat("()", 99)
	x, e, at := parse.Parse([]byte(many + "(?:a)(?=b)(?i)(?#c)\\99"))
	if e != api.OK || x.Groups != 99 || len(x.Names) != 100 || !x.Right() {
		t.Fatalf("99 groups: %d at %d", e, at)
	}
	for _, behind := range []string{"()", "(a", "(", "(?<n>)", "(?<n>", "(*", "(\\q"} {
		isWrong(t, many+behind, api.ErrMany, 198)
		isWrong(t, many+"a|(?:"+behind, api.ErrMany, 203)
	}
	// What it opens is read first.
	isWrong(t, many+"(?<1>)", api.ErrName, 201)
	isWrong(t, "(?<n>)"+many[2:]+"(?<n>)", api.ErrTwice, 205)
	isWrong(t, many+"(?q)", api.ErrFlag, 200)
	isWrong(t, many+"(?", api.ErrFlag, 200)
	// Too deep comes first.
	deep := strings.Repeat("(", 99) + "(?:"
	isWrong(t, deep+"(", api.ErrDeep, 102)
	isWrong(t, strings.Repeat("(", 100), api.ErrMany, 99)
	// Those that are open count, and so do those of other alternatives.
	isWrong(t, "("+strings.Repeat("()|", 98)+"()", api.ErrMany, 1+98*3)
}

func TestNames(t *testing.T) {
	long := strings.Repeat("n", 32)
	for _, name := range []string{"n", "_", "N", "n1", "_9z", long, "i", "P"} {
		isTree(t, "(?<"+name+">)", "G0-"+strconv.Itoa(len(name)+5)+":1<"+name+">(E"+strconv.Itoa(len(name)+4)+"-"+strconv.Itoa(len(name)+4)+")")
	}
	isWrong(t, "(?<"+long+"n>)", api.ErrName, 3)
	isWrong(t, "\\k<"+long+"n>", api.ErrName, 0)
	// Names that differ just in their case are two.
	x, e, _ := parse.Parse([]byte("(?<a>)(?<A>)(?i)(?<aA>)"))
	if e != api.OK || !slices.Equal(x.Names, []string{"", "a", "A", "aA"}) {
		t.Errorf("%d, %q", e, x.Names)
	}
}

// P8.1, held against the model.

// same tells whether nodes from a place on are those of a bush, and the place behind them.
func same(l []ast.Node, i int, x bush) (int, bool) {
	if i >= len(l) {
		return i, false
	}
	n := l[i]
	if n.Kind != x.Kind || n.From != x.From || n.To != x.To || n.Num != x.Num || n.Min != x.Min || n.Max != x.Max || n.Mode != x.Mode || n.Name != x.Name || !slices.Equal(n.Set, x.Set) || len(n.Kids) != len(x.kids) {
		return i, false
	}
	end := i + 1
	for k, kid := range x.kids {
		if n.Kids[k] != end {
			return i, false
		}
		var ok bool
		if end, ok = same(l, end, kid); !ok {
			return i, false
		}
	}
	return end, true
}

// holds holds what Parse tells of a pattern against the model.
func holds(t *testing.T, p string) {
	t.Helper()
	want, names, w := modelled(p)
	x, e, at := parse.Parse([]byte(p))
	if e != w.e || at != w.at {
		t.Fatalf("Parse(%q): error %d at %d, want %d at %d", p, e, at, w.e, w.at)
	}
	if e != api.OK {
		if len(x.Nodes) != 0 || x.Groups != 0 || len(x.Names) != 0 {
			t.Fatalf("Parse(%q) tells a tree beside error %d", p, e)
		}
		return
	}
	if end, ok := same(x.Nodes, 0, want); !ok || end != len(x.Nodes) {
		t.Fatalf("Parse(%q): %s", p, line(x, 0))
	}
	if !slices.Equal(x.Names, names) || x.Groups != len(names)-1 || !x.Right() {
		t.Fatalf("Parse(%q): %d groups, %q", p, x.Groups, x.Names)
	}
}

// texts are all that are made of up to so many of some pieces.
func texts(pieces []string, most int) iter.Seq[string] {
	return func(yield func(string) bool) {
		var more func(p string, left int) bool
		more = func(p string, left int) bool {
			if !yield(p) {
				return false
			}
			if left == 0 {
				return true
			}
			for _, x := range pieces {
				if !more(p+x, left-1) {
					return false
				}
			}
			return true
		}
		more("", most)
	}
}

// pieces are what patterns are made of, right and wrong.
var pieces = []string{"a", "|", "(", ")", "*", "?", "+", "{2}", "{1,3}?", "{0}", "^", "$", "\\b", ".", "[k]", "[", "\\1", "\\k<n>", "(?:", "(?>", "(?=", "(?<!", "(?<n>", "(?<m>", "(?i)", "(?-i:", "(?x)", "(?-x)", "(?ms:", "(?#", "(?", "-", " ", "#", "\n", "\\", "\u00e9", "\xff", "{"}

func TestTexts(t *testing.T) {
	for p := range texts(pieces, 3) {
		holds(t, p)
	}
	for p := range texts([]string{"a", "|", "(", ")", "*", "(?i)", "^"}, 6) {
		holds(t, p)
	}
	for p := range texts([]string{"a", "|", " ", "#", "\n", "*", "(", ")"}, 5) {
		holds(t, "(?x)"+p)
		holds(t, "(?x:"+p+") a")
	}
	for p := range texts([]string{"i", "x", "-", ":", ")", "?", "<"}, 5) {
		holds(t, "(?"+p)
	}
	for p := range texts([]string{"a*", "{0}", "{2}", "?", "+", "(?#)", " "}, 5) {
		holds(t, p)
		holds(t, "(?x)"+p)
	}
}

func TestShort(t *testing.T) {
	for a := range 256 {
		for b := range 256 {
			p := string([]byte{byte(a), byte(b)})
			holds(t, p)
			holds(t, "(?"+p)
			holds(t, "(?x)a"+p)
			holds(t, "\\"+p)
		}
	}
}

// Longer ones, by chance, but each time the same.
func TestLonger(t *testing.T) {
	chance := rand.New(rand.NewSource(8))
	right := 0
	for range 60000 {
		p := ""
		for range chance.Intn(24) {
			p += pieces[chance.Intn(len(pieces))]
		}
		// Most are wrong at their end alone, if they are.
		holds(t, p)
		p += strings.Repeat(")", strings.Count(p, "("))
		holds(t, p)
		if _, e, at := parse.Parse([]byte(p)); e == api.ErrParen {
			p = p[:at]
			holds(t, p)
		}
		if _, e, _ := parse.Parse([]byte(p)); e == api.OK {
			right++
		}
	}
	if right < 1000 {
		t.Errorf("just %d are right", right)
	}
}

// grown is a right pattern by chance, of a depth.
func grown(chance *rand.Rand, deep int) string {
	alone := []string{"a", "k", ".", "[b-d]", "\\w", "\\x6b", "\\1", "\\k<n>", "\u00e9", "\xff", "{", "]", "\\*"}
	noughts := []string{"^", "$", "\\B", "(?i)", "(?s-i)", "(?#c)", "(?m)", "(?x)", "(?-x)", "|", "|"}
	quantifiers := []string{"", "", "", "*", "+?", "??", "{2}", "{0,7}+", "*+", "{3,}?"}
	heads := []string{"(", "(?:", "(?>", "(?=", "(?!", "(?<=", "(?<!", "(?i:", "(?x: ", "(?-mi:"}
	p := ""
	for range chance.Intn(5) {
		switch k := chance.Intn(8); {
		case k < 2:
			p += noughts[chance.Intn(len(noughts))]
		case k < 5 || deep == 0:
			p += alone[chance.Intn(len(alone))] + quantifiers[chance.Intn(len(quantifiers))]
		default:
			p += heads[chance.Intn(len(heads))] + grown(chance, deep-1) + ")" + quantifiers[chance.Intn(len(quantifiers))]
		}
	}
	return p
}

func TestGrown(t *testing.T) {
	chance := rand.New(rand.NewSource(88))
	right := 0
	for range 20000 {
		p := grown(chance, 5)
		holds(t, p)
		if _, e, _ := parse.Parse([]byte(p)); e == api.OK {
			right++
		}
		if len(p) > 0 {
			b := []byte(p)
			b[chance.Intn(len(b))] = byte(chance.Intn(256))
			holds(t, string(b))
			holds(t, p[:chance.Intn(len(p))])
		}
	}
	if right < 15000 {
		t.Errorf("just %d are right", right)
	}
}

// P1 and the rules of memory.

func TestArgumentIsLeft(t *testing.T) {
	for p := range texts([]string{"a", "(?<n>", ")", "*", "[k]", "(?i)", "\\k<n>", "|"}, 3) {
		// The spare room is what would go on with it.
		room := []byte(p + "*)]n>{0}")
		was := bytes.Clone(room)
		x, e, at := parse.Parse(room[:len(p)])
		if !bytes.Equal(room, was) {
			t.Fatalf("%q was changed", p)
		}
		y, f, place := parse.Parse([]byte(p))
		if e != f || at != place || !ast.Same(x, y) {
			t.Fatalf("Parse(%q) goes by the spare room", p)
		}
	}
}

// What was told stays as it is, whatever the pattern becomes, and whatever is written over another answer, or another list of it.
func TestAnswersStay(t *testing.T) {
	text := "(?<name>ab[c]\\d.|(?i)k\\w\\k<name>)(?s)..\\n(?=a|b)(?:cd)*"
	p := []byte(text)
	x, _, _ := parse.Parse(p)
	y, _, _ := parse.Parse(p)
	was := line(x, 0)
	for i := range p {
		p[i] = 'z'
	}
	if line(x, 0) != was || x.Names[1] != "name" {
		t.Fatal("it goes with the pattern")
	}
	for i := range y.Nodes {
		set, kids := y.Nodes[i].Set, y.Nodes[i].Kids
		set, kids = set[:cap(set)], kids[:cap(kids)]
		for k := range set {
			set[k] = rset.Range{Lo: -7, Hi: -7}
		}
		for k := range kids {
			kids[k] = -7
		}
		for k, n := range y.Nodes {
			if k > i && (slices.Contains(n.Kids, -7) || slices.Contains(n.Set, rset.Range{Lo: -7, Hi: -7})) {
				t.Fatalf("the nodes %d and %d share a list", i, k)
			}
		}
	}
	for i := range y.Names {
		y.Names[i] = "z"
	}
	if z, _, _ := parse.Parse([]byte(text)); line(x, 0) != was || line(z, 0) != was || x.Names[1] != "name" || z.Names[1] != "name" {
		t.Error("it goes with another answer")
	}
	if got := class.Any(true); ranges(got) != "0~1100ff" {
		t.Error("another layer's set was written over")
	}
}

// A call hangs on what it is given alone.
func TestAgain(t *testing.T) {
	for _, p := range []string{"(?i)a(?<n>b)", "(?x) a", "((((", "(?<n>b)", ""} {
		x, e, at := parse.Parse([]byte(p))
		for _, other := range []string{"(?imsx)", "(?<n>)(?<n>)", "((((((", strings.Repeat("()", 100)} {
			parse.Parse([]byte(other))
			if y, f, place := parse.Parse([]byte(p)); e != f || at != place || !ast.Same(x, y) {
				t.Errorf("%q goes by %q", p, other)
			}
		}
	}
}
