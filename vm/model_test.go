package vm_test

import (
	"maps"
	"slices"

	"clew/ast"
	"clew/code"
	"clew/event"
	"clew/text"
	"clew/vm"
)

// memory are a model's numbers. Each is copied wherever something waits.
type memory struct {
	caps                 []int
	opened, began, turns map[int]int
}

func newMemory(groups int) memory {
	return memory{event.Blank(groups).Caps, map[int]int{}, map[int]int{}, map[int]int{}}
}

func (m memory) clone() memory {
	return memory{slices.Clone(m.caps), maps.Clone(m.opened), maps.Clone(m.began), maps.Clone(m.turns)}
}

// waits is what waits in a model: an Into (bar), a Retreat with the length that comes next, or a Way.
type waits struct {
	bar                     bool
	pc, pos, origin, length int
	memory                  memory
}

// model does what chapter 17's table says of each instruction, row by row, of any program that may be.
type model struct {
	p              code.Program
	s              text.Text
	limit          vm.Limits
	pc, pos, start int
	now            memory
	waiting        []waits
	states         []event.State
	stop, most     int
}

// run are the states that a program tells, why it stops then, and how many entries waited at most.
func run(p code.Program, s text.Text, limit vm.Limits) ([]event.State, int, int) {
	m := &model{p: p, s: s, limit: limit}
	for m.start = limit.From; m.start <= s.Len() && m.stop == vm.Running; m.start++ {
		m.pc, m.pos, m.now = 0, m.start, newMemory(p.Groups)
		m.tell(event.Begin, 0, 0, -1)
		for going := true; going && m.stop == vm.Running; {
			if !m.do(p.Insts[m.pc]) && m.stop == vm.Running {
				going = m.fail()
			}
		}
	}
	if m.stop == vm.Running {
		m.start, m.pos, m.now = s.Len(), s.Len(), newMemory(p.Groups)
		m.tell(event.None, 0, 0, -1)
	}
	if m.stop == vm.Running {
		m.stop = vm.Done
	}
	return m.states, m.stop, m.most
}

// tell tells a state, if there may be one more.
func (m *model) tell(kind, node, phase, origin int) {
	if m.stop == vm.Running && len(m.states) == m.limit.Steps {
		m.stop = vm.Steps
	}
	if m.stop == vm.Running {
		m.states = append(m.states, event.State{Kind: kind, Node: node, Phase: phase, Pos: m.pos, Start: m.start, Depth: len(m.waiting), Origin: origin, Caps: slices.Clone(m.now.caps)})
	}
}

// wait lets something wait. What would be told with it isn't asked for any more, if the steps are over.
func (m *model) wait(w waits) {
	if len(m.states) == m.limit.Steps {
		m.stop = vm.Steps
		return
	}
	if len(m.waiting) == m.limit.Stack {
		m.stop = vm.Stack
		return
	}
	w.pos, w.memory = m.pos, m.now.clone()
	m.waiting = append(m.waiting, w)
	m.most = max(m.most, len(m.waiting))
}

// barrier is how many entries are below the topmost barrier.
func (m *model) barrier() int {
	for at, w := range slices.Backward(m.waiting) {
		if w.bar {
			return at
		}
	}
	return -1
}

// check goes on, and tells so, if something is so; else it misses.
func (m *model) check(ok bool, kind, to int, i code.Inst) bool {
	if !ok {
		m.tell(event.Miss, i.Node, 0, -1)
		return false
	}
	m.pos = to
	m.pc++
	m.tell(kind, i.Node, 0, -1)
	return true
}

// do does an instruction; false: it fails.
func (m *model) do(i code.Inst) bool {
	number := len(m.states)
	switch i.Op {
	case code.Set:
		return m.check(m.s.In(m.pos, m.p.Sets[i.X]), event.Step, m.pos+1, i)
	case code.Hold:
		return m.check(m.s.Hold(i.X, m.pos), event.Held, m.pos, i)
	case code.Back:
		from, to, ok := event.State{Caps: m.now.caps}.Span(i.X)
		end := 0
		if ok {
			end, ok = m.s.Again(from, to, m.pos, i.Y)
		}
		return m.check(ok, event.Step, end, i)
	case code.Fork:
		m.wait(waits{pc: i.X, origin: number})
		m.tell(event.Fork, i.Node, 0, -1)
		m.pc++
	case code.Way:
		m.pc++
	case code.Jump:
		m.pc = i.X
	case code.Init:
		m.now.turns[i.X] = 0
		m.pc++
	case code.Loop:
		m.loop(i, number)
	case code.Mark:
		m.now.began[i.X] = m.pos
		m.pc++
	case code.Next:
		began, marked := m.now.began[i.X]
		if m.now.turns[i.X] >= m.p.Loops[i.X].Min && marked && began == m.pos {
			m.tell(event.Miss, i.Node, 3, -1)
			return false
		}
		m.now.turns[i.X]++
		m.pc = i.Y
	case code.Open:
		m.now.opened[i.X] = m.pos
		m.tell(event.Open, i.Node, 0, -1)
		m.pc++
	case code.Close:
		from, ok := m.now.opened[i.X]
		if !ok {
			from = -1
		}
		m.now.caps[2*i.X], m.now.caps[2*i.X+1] = from, m.pos
		m.tell(event.Close, i.Node, 0, -1)
		m.pc++
	case code.Into:
		m.wait(waits{bar: true, pc: m.pc, origin: number})
		m.tell(event.Into, i.Node, 0, -1)
		m.pc++
	case code.Retreat:
		if i.X > m.pos {
			m.tell(event.Miss, i.Node, 0, -1)
			return false
		}
		m.back(i, i.X, event.Fork, number, -1)
	case code.Meet:
		if m.pos != m.waiting[m.barrier()].pos {
			m.tell(event.Miss, i.Node, 0, -1)
			return false
		}
		m.pc++
	case code.Cut, code.Peek, code.Refute:
		return m.out(i)
	case code.Match:
		m.now.caps[0], m.now.caps[1] = m.start, m.pos
		m.tell(event.Match, i.Node, 0, -1)
		if m.stop == vm.Running {
			m.stop = vm.Done
		}
	}
	return true
}

func (m *model) loop(i code.Inst, number int) {
	c, turns := m.p.Loops[i.X], m.now.turns[i.X]
	switch {
	case turns < c.Min:
		m.tell(event.Turn, i.Node, 0, -1)
		m.pc = i.Z
	case c.Max >= 0 && turns == c.Max:
		m.pc = i.Y
	case c.Mode == ast.Greedy:
		m.wait(waits{pc: m.pc + 1, origin: number})
		m.tell(event.Fork, i.Node, 1, -1)
		m.pc = i.Z
	default:
		m.wait(waits{pc: m.pc + 1, origin: number})
		m.tell(event.Fork, i.Node, 2, -1)
		m.pc = i.Y
	}
}

// back goes so far back from where a Retreat was come to.
func (m *model) back(i code.Inst, length, kind, fork, origin int) {
	if length+1 <= i.Y && length+1 <= m.pos {
		m.wait(waits{pc: m.pc, origin: fork, length: length + 1})
	}
	m.pos -= length
	m.tell(kind, i.Node, length+1, origin)
	m.pc++
}

func (m *model) out(i code.Inst) bool {
	at := m.barrier()
	bar := m.waiting[at]
	m.waiting = m.waiting[:at]
	if i.Op != code.Cut {
		m.pos = bar.pos
	}
	if i.Op == code.Refute {
		m.now = bar.memory
		m.tell(event.Out, i.Node, 1, bar.origin)
		return false
	}
	m.tell(event.Out, i.Node, 0, bar.origin)
	m.pc++
	return true
}

// fail goes back to what waits on top; false: nothing does.
func (m *model) fail() bool {
	if len(m.waiting) == 0 {
		return false
	}
	w := m.waiting[len(m.waiting)-1]
	m.waiting = m.waiting[:len(m.waiting)-1]
	m.pc, m.pos, m.now = w.pc, w.pos, w.memory
	i := m.p.Insts[w.pc]
	switch {
	case w.bar && i.X == -1:
		m.tell(event.Drop, i.Node, 0, w.origin)
		return m.stop != vm.Running || m.fail()
	case w.bar:
		m.tell(event.Drop, i.Node, 1, w.origin)
		m.pc = i.X
	case i.Op == code.Retreat:
		m.back(i, w.length, event.Again, w.origin, w.origin)
	default:
		if i.X != -1 {
			m.wait(waits{pc: i.X, origin: w.origin})
		}
		m.tell(event.Again, i.Node, i.Phase, w.origin)
		m.pc++
	}
	return true
}
