package comp_test

import (
	"slices"

	"clew/ast"
	"clew/code"
	"clew/well"
)

// plain is a plain model of the chapter's program: row by row of its table, with all places worked out from how many instructions there are.
func plain(t ast.Tree) code.Program {
	p := code.Program{Groups: t.Groups}
	for _, n := range t.Nodes {
		switch n.Kind {
		case ast.Set:
			p.Sets = append(p.Sets, n.Set)
		case ast.Repeat:
			p.Loops = append(p.Loops, code.Count{Min: n.Min, Max: n.Max, Mode: n.Mode})
		}
	}
	p.Insts = append(rows{t, well.Widths(t), sizes(t)}.of(0, 0), code.Inst{Op: code.Match})
	return p
}

// sizes are how many instructions each node has, with all that is in it.
func sizes(t ast.Tree) []int {
	l := make([]int, len(t.Nodes))
	for i, n := range slices.Backward(t.Nodes) {
		kids := 0
		for _, kid := range n.Kids {
			kids += l[kid]
		}
		switch n.Kind {
		case ast.Empty, ast.Cat:
			l[i] = kids
		case ast.Set, ast.Hold, ast.Back:
			l[i] = 1
		case ast.Alt:
			l[i] = kids + 1 + 2*(len(n.Kids)-1)
		case ast.Group, ast.Atomic:
			l[i] = kids + 2
		case ast.Repeat:
			l[i] = kids + 6 - n.Mode
		case ast.Look:
			l[i] = kids + 2
			if n.Num >= ast.Behind {
				l[i] += 2
			}
		}
	}
	return l
}

// rows are the table's, of a tree whose widths and sizes are known.
type rows struct {
	t      ast.Tree
	widths []well.Width
	sizes  []int
}

// many is how many nodes of a kind are ahead of one.
func (r rows) many(kind, node int) int {
	many := 0
	for _, n := range r.t.Nodes[:node] {
		if n.Kind == kind {
			many++
		}
	}
	return many
}

// of are the instructions of a node, the first of which stands at a place.
func (r rows) of(node, at int) []code.Inst {
	n := r.t.Nodes[node]
	behind := at + r.sizes[node]
	// one is an instruction of the node.
	one := func(op, x, y, z, phase int) []code.Inst {
		return []code.Inst{{Op: op, X: x, Y: y, Z: z, Node: node, Phase: phase}}
	}
	// kid are the instructions of the node's kid, so far behind the node's first one.
	kid := func(further int) []code.Inst { return r.of(n.Kids[0], at+further) }
	switch n.Kind {
	case ast.Set:
		return one(code.Set, r.many(ast.Set, node), 0, 0, 0)
	case ast.Hold:
		return one(code.Hold, n.Num, 0, 0, 0)
	case ast.Back:
		return one(code.Back, n.Num, n.Mode, 0, 0)
	case ast.Cat:
		var l []code.Inst
		for _, k := range n.Kids {
			l = append(l, r.of(k, at+len(l))...)
		}
		return l
	case ast.Alt:
		way := at + 1 + r.sizes[n.Kids[0]] + 1
		l := slices.Concat(one(code.Fork, way, 0, 0, 0), kid(1))
		for i, k := range n.Kids[1:] {
			next := way + 1 + r.sizes[k] + 1
			if i == len(n.Kids)-2 {
				next = -1
			}
			l = slices.Concat(l, one(code.Jump, behind, 0, 0, 0), one(code.Way, next, 0, 0, i+1), r.of(k, way+1))
			way = next
		}
		return l
	case ast.Group:
		return slices.Concat(one(code.Open, n.Num, 0, 0, 0), kid(1), one(code.Close, n.Num, 0, 0, 0))
	case ast.Repeat:
		x := r.many(ast.Repeat, node)
		if n.Mode == ast.Lazy {
			return slices.Concat(one(code.Init, x, 0, 0, 0), one(code.Loop, x, behind, at+3, 0), one(code.Way, -1, 0, 0, 1), one(code.Mark, x, 0, 0, 0), kid(4), one(code.Next, x, at+1, 0, 0))
		}
		return slices.Concat(one(code.Init, x, 0, 0, 0), one(code.Loop, x, behind, at+4, 0), one(code.Way, -1, 0, 0, 2), one(code.Jump, behind, 0, 0, 0), one(code.Mark, x, 0, 0, 0), kid(5), one(code.Next, x, at+1, 0, 0))
	case ast.Atomic:
		return slices.Concat(one(code.Into, -1, 0, 0, 0), kid(1), one(code.Cut, 0, 0, 0, 0))
	case ast.Look:
		return r.look(node, at)
	}
	return nil
}

// look are the instructions of a Look, the first of which stands at a place.
func (r rows) look(node, at int) []code.Inst {
	n := r.t.Nodes[node]
	into := code.Inst{Op: code.Into, X: -1, Node: node}
	last := code.Inst{Op: code.Peek, Node: node}
	if n.Num == ast.NotAhead || n.Num == ast.NotBehind {
		into.X, last.Op = at+r.sizes[node], code.Refute
	}
	kid := n.Kids[0]
	if n.Num == ast.Ahead || n.Num == ast.NotAhead {
		return slices.Concat([]code.Inst{into}, r.of(kid, at+1), []code.Inst{last})
	}
	back := code.Inst{Op: code.Retreat, X: r.widths[kid].Lo, Y: r.widths[kid].Hi, Node: node}
	return slices.Concat([]code.Inst{into, back}, r.of(kid, at+2), []code.Inst{{Op: code.Meet, Node: node}, last})
}
