package vm_test

import (
	"slices"

	"clew/ast"
	"clew/event"
	"clew/text"
	"clew/well"
)

// now is how things are at some time of a walk. Its Caps are never changed in place, so that what goes back has what it had.
type now struct {
	pos, depth int
	caps       []int
}

// then is what comes behind a node: whether it came to its end.
type then func(now) bool

// long is a walk that has more states than are wanted.
type long struct{}

// walker is chapter 14's walk of a tree, by what it says of each node, and without a program or a machine.
type walker struct {
	t      ast.Tree
	s      text.Text
	widths []well.Width
	start  int
	most   int
	states []event.State
}

// walk are the states of a tree's walk from a place, but for those behind most; and whether these are all.
func walk(t ast.Tree, s text.Text, from, most int) (l []event.State, all bool) {
	w := &walker{t: t, s: s, widths: well.Widths(t), most: most}
	defer func() {
		if x := recover(); x != nil {
			if _, ok := x.(long); !ok {
				panic(x)
			}
			l, all = w.states, false
		}
	}()
	for w.start = from; w.start <= s.Len(); w.start++ {
		n := now{pos: w.start, caps: event.Blank(t.Groups).Caps}
		w.tell(n, event.Begin, 0, 0, -1)
		if w.do(0, n, w.matched) {
			return w.states, true
		}
	}
	w.start = s.Len()
	w.tell(now{pos: s.Len(), caps: event.Blank(t.Groups).Caps}, event.None, 0, 0, -1)
	return w.states, true
}

// tell tells a state, and which number it has.
func (w *walker) tell(n now, kind, node, phase, origin int) int {
	if len(w.states) == w.most {
		panic(long{})
	}
	w.states = append(w.states, event.State{Kind: kind, Node: node, Phase: phase, Pos: n.pos, Start: w.start, Depth: n.depth, Origin: origin, Caps: n.caps})
	return len(w.states) - 1
}

// with is how things are with another span of a group.
func (n now) with(group, from, to int) now {
	n.caps = slices.Clone(n.caps)
	n.caps[2*group], n.caps[2*group+1] = from, to
	return n
}

// deeper is how things are with so many entries more.
func (n now) deeper(more int) now {
	n.depth += more
	return n
}

// at is how things are at another place.
func (n now) at(pos int) now {
	n.pos = pos
	return n
}

func (w *walker) matched(n now) bool {
	w.tell(n.with(0, w.start, n.pos), event.Match, 0, 0, -1)
	return true
}

// do does a node, and then what comes behind it.
func (w *walker) do(i int, n now, behind then) bool {
	x := w.t.Nodes[i]
	switch x.Kind {
	case ast.Set:
		return w.step(i, n, n.pos+1, w.s.In(n.pos, x.Set), event.Step, behind)
	case ast.Hold:
		return w.step(i, n, n.pos, w.s.Hold(x.Num, n.pos), event.Held, behind)
	case ast.Back:
		from, to, ok := event.State{Caps: n.caps}.Span(x.Num)
		end := 0
		if ok {
			end, ok = w.s.Again(from, to, n.pos, x.Mode)
		}
		return w.step(i, n, end, ok, event.Step, behind)
	case ast.Cat:
		return w.cat(x.Kids, n, behind)
	case ast.Alt:
		return w.alt(i, n, behind)
	case ast.Group:
		w.tell(n, event.Open, i, 0, -1)
		return w.do(x.Kids[0], n, func(m now) bool {
			m = m.with(x.Num, n.pos, m.pos)
			w.tell(m, event.Close, i, 0, -1)
			return behind(m)
		})
	case ast.Repeat:
		return w.repeat(i, 0, n, behind)
	case ast.Atomic, ast.Look:
		return w.into(i, n, behind)
	}
	return behind(n)
}

// step goes on to a place, if something is so.
func (w *walker) step(i int, n now, to int, ok bool, kind int, behind then) bool {
	if !ok {
		w.tell(n, event.Miss, i, 0, -1)
		return false
	}
	w.tell(n.at(to), kind, i, 0, -1)
	return behind(n.at(to))
}

func (w *walker) cat(kids []int, n now, behind then) bool {
	if len(kids) == 0 {
		return behind(n)
	}
	return w.do(kids[0], n, func(m now) bool { return w.cat(kids[1:], m, behind) })
}

func (w *walker) alt(i int, n now, behind then) bool {
	kids := w.t.Nodes[i].Kids
	fork := w.tell(n.deeper(1), event.Fork, i, 0, -1)
	if w.do(kids[0], n.deeper(1), behind) {
		return true
	}
	for k := 1; k < len(kids); k++ {
		left := 1
		if k == len(kids)-1 {
			left = 0
		}
		w.tell(n.deeper(left), event.Again, i, k, fork)
		if w.do(kids[k], n.deeper(left), behind) {
			return true
		}
	}
	return false
}

func (w *walker) repeat(i, turns int, n now, behind then) bool {
	x := w.t.Nodes[i]
	if turns < x.Min {
		w.tell(n, event.Turn, i, 0, -1)
		return w.turn(i, turns, n, behind)
	}
	if turns == x.Max {
		return behind(n)
	}
	turn := func(m now) bool { return w.turn(i, turns, m, behind) }
	first, second, phase := turn, behind, 1
	if x.Mode == ast.Lazy {
		first, second, phase = behind, turn, 2
	}
	fork := w.tell(n.deeper(1), event.Fork, i, phase, -1)
	if first(n.deeper(1)) {
		return true
	}
	w.tell(n, event.Again, i, 3-phase, fork)
	return second(n)
}

func (w *walker) turn(i, turns int, n now, behind then) bool {
	x := w.t.Nodes[i]
	return w.do(x.Kids[0], n, func(m now) bool {
		if turns >= x.Min && m.pos == n.pos {
			w.tell(m, event.Miss, i, 3, -1)
			return false
		}
		return w.repeat(i, turns+1, m, behind)
	})
}

// into does an Atomic, or a Look: what is within it, with nothing behind it.
func (w *walker) into(i int, n now, behind then) bool {
	x := w.t.Nodes[i]
	look := x.Kind == ast.Look
	not := look && (x.Num == ast.NotAhead || x.Num == ast.NotBehind)
	var end now
	ends := func(m now) bool {
		end = m
		return true
	}
	from := w.tell(n.deeper(1), event.Into, i, 0, -1)
	came := false
	if look && (x.Num == ast.Behind || x.Num == ast.NotBehind) {
		came = w.before(i, n.deeper(1), ends)
	} else {
		came = w.do(x.Kids[0], n.deeper(1), ends)
	}
	switch {
	case came && not:
		w.tell(n, event.Out, i, 1, from)
		return false
	case came:
		end.depth = n.depth
		if look {
			end.pos = n.pos
		}
		w.tell(end, event.Out, i, 0, from)
		return behind(end)
	case not:
		w.tell(n, event.Drop, i, 1, from)
		return behind(n)
	}
	w.tell(n, event.Drop, i, 0, from)
	return false
}

// before does what is within a look behind, from each place from which it may come to where that stands.
func (w *walker) before(i int, n now, ends then) bool {
	kid := w.t.Nodes[i].Kids[0]
	least, most := w.widths[kid].Lo, min(w.widths[kid].Hi, n.pos)
	if least > n.pos {
		w.tell(n, event.Miss, i, 0, -1)
		return false
	}
	fork := -1
	for length := least; length <= most; length++ {
		m := n.at(n.pos - length)
		if length < most {
			m = m.deeper(1)
		}
		if length == least {
			fork = w.tell(m, event.Fork, i, length+1, -1)
		} else {
			w.tell(m, event.Again, i, length+1, fork)
		}
		came := w.do(kid, m, func(e now) bool {
			if e.pos != n.pos {
				w.tell(e, event.Miss, i, 0, -1)
				return false
			}
			return ends(e)
		})
		if came {
			return true
		}
	}
	return false
}
