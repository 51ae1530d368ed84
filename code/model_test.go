package code_test

import (
	"slices"

	"clew/api"
	"clew/code"
	"clew/rset"
)

// may is a plain model of the chapter's rule: row by row of its table, and with all numbers of barriers that there ever are at a place.
func may(p code.Program) bool {
	end := len(p.Insts) - 1
	if end < 0 || p.Groups < 0 || p.Groups > 99 || len(p.Loops) > 4096 {
		return false
	}
	for _, l := range p.Sets {
		if !least(l) {
			return false
		}
	}
	for _, c := range p.Loops {
		if c.Min < 0 || c.Min > 1000 || c.Max != -1 && (c.Max < c.Min || c.Max < 1 || c.Max > 1000) || c.Mode < 0 || c.Mode > 1 {
			return false
		}
	}
	for at, i := range p.Insts {
		if (i.Op == code.Match) != (at == end) || i.Op < 1 || i.Op > 19 || i.Node < 0 || i.Node > 16384 || i.Phase < 0 || i.Phase > 16384 {
			return false
		}
	}
	for at := range p.Insts {
		if !row(p, at) {
			return false
		}
	}
	return evened(p)
}

// least tells whether a list of ranges has the fewest, the lower ones first.
func least(l []rset.Range) bool {
	ahead := -2
	for _, r := range l {
		if r.Lo < 0 || r.Lo < ahead+2 || r.Hi < r.Lo || r.Hi > api.MaxSym {
			return false
		}
		ahead = r.Hi
	}
	return true
}

// operand tells whether an X, a Y or a Z may be.
type operand func(p code.Program, at, x int) bool

// row tells whether an instruction's X, Y and Z are as the chapter's table says.
func row(p code.Program, at int) bool {
	rows := map[int][3]operand{
		code.Set:     {one(func(p code.Program) int { return len(p.Sets) }, 0)},
		code.Hold:    {from(1, 7)},
		code.Back:    {one(groups, 1), from(0, 1)},
		code.Fork:    {toWay},
		code.Way:     {or(from(-1, -1), toWay)},
		code.Jump:    {ahead},
		code.Init:    {one(loops, 0)},
		code.Loop:    {one(loops, 0), ahead, func(p code.Program, at, x int) bool { return ahead(p, at, x) && p.Insts[at+1].Op == code.Way }},
		code.Mark:    {one(loops, 0)},
		code.Next:    {one(loops, 0), toLoop},
		code.Open:    {one(groups, 1)},
		code.Close:   {one(groups, 1)},
		code.Into:    {or(from(-1, -1), ahead)},
		code.Retreat: {func(p code.Program, at, x int) bool { return 0 <= x && x <= p.Insts[at].Y }, from(0, 255)},
	}
	i := p.Insts[at]
	for k, x := range []int{i.X, i.Y, i.Z} {
		is := rows[i.Op][k]
		if is == nil {
			is = from(0, 0)
		}
		if !is(p, at, x) {
			return false
		}
	}
	return true
}

func groups(p code.Program) int { return p.Groups }

func loops(p code.Program) int { return len(p.Loops) }

// one is a number of as many things as there are, the first of which has some number.
func one(many func(p code.Program) int, first int) operand {
	return func(p code.Program, at, x int) bool { return x >= first && x < first+many(p) }
}

func from(a, b int) operand {
	return func(p code.Program, at, x int) bool { return x >= a && x <= b }
}

func or(a, b operand) operand {
	return func(p code.Program, at, x int) bool { return a(p, at, x) || b(p, at, x) }
}

func ahead(p code.Program, at, x int) bool { return x > at && x <= len(p.Insts)-1 }

func toWay(p code.Program, at, x int) bool { return ahead(p, at, x) && p.Insts[x].Op == code.Way }

func toLoop(p code.Program, at, x int) bool {
	return x >= 0 && x < at && p.Insts[x].Op == code.Loop && p.Insts[x].X == p.Insts[at].X && p.Insts[x].Y > at
}

// evened tells whether barriers are as they may be, of a program that is so else.
func evened(p code.Program) bool {
	// More barriers than instructions there are only where some place has several numbers of them.
	many := make([][]bool, len(p.Insts))
	for at := range many {
		many[at] = make([]bool, len(p.Insts)+2)
	}
	many[0][0] = true
	for more := true; more; {
		more = false
		for at, i := range p.Insts {
			for n := range len(p.Insts) {
				if !many[at][n] {
					continue
				}
				if (i.Op == code.Retreat || i.Op == code.Meet || i.Op == code.Cut || i.Op == code.Peek || i.Op == code.Refute) && n == 0 || i.Op == code.Match && n > 0 {
					return false
				}
				for _, e := range edges(at, i) {
					if to, n := e[0], n+e[1]; !many[to][n] {
						many[to][n], more = true, true
					}
				}
			}
		}
	}
	several := func(l []bool) bool {
		first := slices.Index(l, true)
		return first >= 0 && slices.Contains(l[first+1:], true)
	}
	return !slices.ContainsFunc(many, several)
}

// edges are where an instruction leads, each with how many barriers there are more.
func edges(at int, i code.Inst) [][2]int {
	switch i.Op {
	case code.Fork:
		return [][2]int{{at + 1}, {i.X}}
	case code.Way:
		if i.X == -1 {
			return [][2]int{{at + 1}}
		}
		return [][2]int{{at + 1}, {i.X}}
	case code.Loop:
		return [][2]int{{at + 1}, {i.Y}, {i.Z}}
	case code.Jump:
		return [][2]int{{i.X}}
	case code.Next:
		return [][2]int{{i.Y}}
	case code.Into:
		if i.X == -1 {
			return [][2]int{{at + 1, 1}}
		}
		return [][2]int{{at + 1, 1}, {i.X}}
	case code.Cut, code.Peek:
		return [][2]int{{at + 1, -1}}
	case code.Refute, code.Match:
		return nil
	}
	return [][2]int{{at + 1}}
}
