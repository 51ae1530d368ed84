package parse_test

import (
	"regexp"
	"slices"
	"strconv"
	"strings"

	"clew/api"
	"clew/ast"
	"clew/class"
	"clew/fold"
	"clew/rset"
	"clew/scan"
	"clew/sym"
)

// wrong is an error and its place.
type wrong struct {
	e  api.Errno
	at int
}

// bush is a node of the model, with its kids themselves.
type bush struct {
	ast.Node
	kids []bush
}

// frame is a parenthesis that isn't closed yet (the first one is the whole).
type frame struct {
	node        bush   // what holds what is in it; of the Kind 0: nothing does
	outer       string // the flags that hold behind it
	open        int    // where it stands
	from, begin int    // where its first alternative begins, and where the last one does
	ways, row   []bush // the alternatives that are over, and the pieces of the last one
}

// What stands ahead of a place.
const (
	other = iota
	atom
	quantifier
)

// model reads a pattern token by token, by regular expressions, with the open parentheses in a list.
type model struct {
	p     string
	at    int
	flags string
	open  []frame
	ahead int
	first int // where the atom ahead begins
	names []string
	wrong wrong
}

// modelled is the tree of a pattern, or its error.
func modelled(p string) (bush, []string, wrong) {
	if len(p) > 4096 {
		return bush{}, nil, wrong{api.ErrLong, 0}
	}
	m := &model{p: p, open: []frame{{}}, names: []string{""}}
	for m.at < len(p) && m.wrong.e == api.OK {
		m.step()
	}
	if m.wrong.e == api.OK && len(m.open) > 1 {
		m.fail(api.ErrParen, m.top().open)
	}
	if m.wrong.e != api.OK {
		return bush{}, nil, m.wrong
	}
	whole := m.close()
	m.number(&whole)
	return whole, m.names, wrong{}
}

func (m *model) fail(e api.Errno, at int) { m.wrong = wrong{e, at} }

func (m *model) top() *frame { return &m.open[len(m.open)-1] }

func (m *model) has(flag string) bool { return strings.Contains(m.flags, flag) }

// number gives the Backs that have a name the number of its group.
func (m *model) number(x *bush) {
	if x.Kind == ast.Back && x.Name != "" {
		for i, name := range m.names {
			if name == x.Name {
				x.Num = i
			}
		}
	}
	for i := range x.kids {
		m.number(&x.kids[i])
	}
}

// add adds a piece.
func (m *model) add(x bush, ahead int) {
	x.From, x.To = m.at, m.at+x.To
	m.first, m.ahead, m.at = x.From, ahead, x.To
	m.top().row = append(m.top().row, x)
}

// over ends an alternative.
func (m *model) over() {
	f := m.top()
	x := bush{Node: ast.Node{Kind: ast.Empty, From: f.begin, To: f.begin}}
	if len(f.row) == 1 {
		x = f.row[0]
	}
	if len(f.row) > 1 {
		x = bush{ast.Node{Kind: ast.Cat, From: f.row[0].From, To: f.row[len(f.row)-1].To}, f.row}
	}
	f.ways, f.row = append(f.ways, x), nil
}

// close is what is in the last open parenthesis, as it is.
func (m *model) close() bush {
	m.over()
	f := m.top()
	if len(f.ways) == 1 {
		return f.ways[0]
	}
	return bush{ast.Node{Kind: ast.Alt, From: f.from, To: m.at}, f.ways}
}

var (
	blanks     = regexp.MustCompile(`^(?:[\t-\r ]|#[^\n]*)+`)
	quantified = regexp.MustCompile(`^(?:\*|\+|\?|\{([0-9]+)(?:(,)([0-9]*))?\})([?+]?)`)
	remarked   = regexp.MustCompile(`^\(\?#[^)]*\)`)
	flagged    = regexp.MustCompile(`^\(\?(?:([imsx]+)|([imsx]*)-([imsx]+))([:)])`)
	flagging   = regexp.MustCompile(`^\(\?[imsx]*(?:-[imsx]*)?`)
	named      = regexp.MustCompile(`^\(\?<([A-Za-z_][A-Za-z_0-9]{0,31})>`)
	heads      = []struct {
		sign string
		node ast.Node
	}{
		{"(?:", ast.Node{}}, {"(?>", ast.Node{Kind: ast.Atomic}}, {"(?=", ast.Node{Kind: ast.Look, Num: 1}}, {"(?!", ast.Node{Kind: ast.Look, Num: 2}}, {"(?<=", ast.Node{Kind: ast.Look, Num: 3}}, {"(?<!", ast.Node{Kind: ast.Look, Num: 4}},
	}
)

// step reads a token.
func (m *model) step() {
	left := m.p[m.at:]
	if skipped := blanks.FindString(left); skipped != "" && m.has("x") {
		m.at += len(skipped)
		return
	}
	if q := quantified.FindStringSubmatch(left); q != nil {
		m.quantify(q)
		return
	}
	switch left[0] {
	case '|':
		m.over()
		m.at++
		m.top().begin, m.ahead = m.at, other
	case ')':
		m.shut()
	case '(':
		m.parenthesis(left)
	default:
		m.single(left)
	}
}

// quantify puts a quantifier behind what stands ahead of it.
func (m *model) quantify(q []string) {
	low, high := 0, -1
	switch q[0][0] {
	case '+':
		low = 1
	case '?':
		high = 1
	case '{':
		low, high = number(q[1]), number(q[3])
		if q[2] == "" {
			high = low
		}
	}
	bad := low > 1000 || high > 1000 || high == 0 || high > 0 && high < low
	switch {
	case m.ahead == quantifier:
		m.fail(api.ErrRepeat, m.at)
	case bad:
		m.fail(api.ErrCount, m.at)
	case m.ahead == other:
		m.fail(api.ErrRepeat, m.at)
	default:
		m.again(low, high, q[4], m.at+len(q[0]))
	}
}

// number is that of some digits; -1, if there is none.
func number(digits string) int {
	if digits == "" {
		return -1
	}
	n, err := strconv.Atoi(digits)
	if err != nil {
		return 1 << 40
	}
	return n
}

// again makes a Repeat of the last piece.
func (m *model) again(low, high int, mode string, to int) {
	row := m.top().row
	last := &row[len(row)-1]
	n := ast.Node{Kind: ast.Repeat, From: m.first, To: to, Min: low, Max: high, Mode: ast.Greedy}
	if mode == "?" {
		n.Mode = ast.Lazy
	}
	*last = bush{n, []bush{*last}}
	if mode == "+" {
		*last = bush{ast.Node{Kind: ast.Atomic, From: m.first, To: to}, []bush{*last}}
	}
	m.at, m.ahead = to, quantifier
}

// shut closes a parenthesis.
func (m *model) shut() {
	if len(m.open) == 1 {
		m.fail(api.ErrParen, m.at)
		return
	}
	f := *m.top()
	x := m.close()
	m.at++
	if f.node.Kind != 0 {
		f.node.From, f.node.To, f.node.kids = f.open, m.at, []bush{x}
		x = f.node
	}
	m.open = m.open[:len(m.open)-1]
	m.top().row = append(m.top().row, x)
	m.flags, m.first, m.ahead = f.outer, f.open, atom
}

// parenthesis reads what one opens.
func (m *model) parenthesis(left string) {
	if len(m.open) > 100 {
		m.fail(api.ErrDeep, m.at)
		return
	}
	for _, h := range heads {
		if strings.HasPrefix(left, h.sign) {
			m.within(h.node, len(h.sign), m.flags)
			return
		}
	}
	switch {
	case !strings.HasPrefix(left, "(?"):
		m.group("", 1)
	case strings.HasPrefix(left, "(?#"):
		m.remark(left)
	case strings.HasPrefix(left, "(?<"):
		m.name(left)
	default:
		m.flag(left)
	}
}

func (m *model) within(n ast.Node, head int, flags string) {
	m.open = append(m.open, frame{node: bush{Node: n}, outer: m.flags, open: m.at, from: m.at + head, begin: m.at + head})
	m.at += head
	m.flags, m.ahead = flags, other
}

func (m *model) group(name string, head int) {
	if len(m.names) > 99 {
		m.fail(api.ErrMany, m.at)
		return
	}
	m.names = append(m.names, name)
	m.within(ast.Node{Kind: ast.Group, Num: len(m.names) - 1, Name: name}, head, m.flags)
}

func (m *model) remark(left string) {
	found := remarked.FindString(left)
	if found == "" {
		m.fail(api.ErrParen, m.at)
		return
	}
	m.at, m.ahead = m.at+len(found), other
}

func (m *model) name(left string) {
	found := named.FindStringSubmatch(left)
	switch {
	case found == nil:
		m.fail(api.ErrName, m.at+3)
	case slices.Contains(m.names, found[1]):
		m.fail(api.ErrTwice, m.at+3)
	default:
		m.group(found[1], len(found[0]))
	}
}

func (m *model) flag(left string) {
	found := flagged.FindStringSubmatch(left)
	if found == nil {
		m.fail(api.ErrFlag, m.at+len(flagging.FindString(left)))
		return
	}
	flags := m.flags + found[1] + found[2]
	for _, letter := range found[3] {
		flags = strings.ReplaceAll(flags, string(letter), "")
	}
	if found[4] == ":" {
		m.within(ast.Node{}, len(found[0]), flags)
		return
	}
	m.at, m.flags, m.ahead = m.at+len(found[0]), flags, other
}

// single reads a token that is neither a quantifier nor a parenthesis.
func (m *model) single(left string) {
	switch left[0] {
	case '^', '$':
		num := map[string]int{"^": ast.Begin, "$": ast.End, "^m": ast.LineBegin, "$m": ast.LineEnd}
		sign := left[:1]
		if m.has("m") {
			sign += "m"
		}
		m.add(bush{Node: ast.Node{Kind: ast.Hold, Num: num[sign], To: 1}}, other)
	case '.':
		m.add(bush{Node: ast.Node{Kind: ast.Set, Set: class.Any(m.has("s")), To: 1}}, atom)
	case '[':
		l, to, e, at := scan.Class([]byte(left), 0, m.has("i"))
		if e != api.OK {
			m.fail(e, m.at+at)
			return
		}
		m.add(bush{Node: ast.Node{Kind: ast.Set, Set: l, To: to}}, atom)
	case '\\':
		m.backslash(left)
	default:
		x, n := sym.At([]byte(left), 0)
		m.add(bush{Node: ast.Node{Kind: ast.Set, Set: m.cased(rset.Of(x)), To: n}}, atom)
	}
}

func (m *model) cased(l []rset.Range) []rset.Range {
	if m.has("i") {
		return fold.Close(l)
	}
	return l
}

func (m *model) backslash(left string) {
	x, e := scan.Escape([]byte(left), 0)
	if e != api.OK {
		m.fail(e, m.at)
		return
	}
	n, ahead := ast.Node{To: x.To}, atom
	switch x.Kind {
	case scan.Lit:
		n.Kind, n.Set = ast.Set, m.cased(rset.Of(x.Num))
	case scan.Cls:
		n.Kind, n.Set = ast.Set, m.cased(x.Set)
	case scan.Hld:
		n.Kind, n.Num, ahead = ast.Hold, x.Num, other
	case scan.Ref, scan.Key:
		n.Kind, n.Num, n.Name = ast.Back, x.Num, x.Name
		if m.has("i") {
			n.Mode = ast.Folded
		}
	}
	m.add(bush{Node: n}, ahead)
}
