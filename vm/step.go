package vm

import (
	"clew/ast"
	"clew/code"
	"clew/event"
	"clew/pile"
)

// The phases of a repeat, by what comes then.
const (
	turn   = 1
	behind = 2
	empty  = 3
)

// denied is the phase of an end that a look has which denies what is within it.
const denied = 1

// do does an instruction that isn't come to by an entry.
func (m *Machine) do(i code.Inst) (event.State, bool) {
	switch i.Op {
	case code.Set:
		return m.take(i, m.pos+1, m.text.In(m.pos, m.program.Sets[i.X]))
	case code.Back:
		from, to := m.numbers.span(i.X)
		end, ok := m.text.Again(from, to, m.pos, i.Y)
		return m.take(i, end, ok)
	case code.Hold:
		return m.hold(i)
	case code.Fork:
		return m.fork(i, 0, i.X, m.pc+1)
	case code.Jump:
		m.pc = i.X
		return quiet()
	case code.Loop:
		return m.loop(i)
	case code.Next:
		return m.endTurn(i)
	case code.Into:
		return m.into(i)
	case code.Retreat:
		return m.retreat(i)
	case code.Meet:
		return m.meet(i)
	case code.Cut, code.Peek, code.Refute:
		return m.out(i)
	case code.Match:
		return m.match(i)
	}
	return m.set(i)
}

// set does an instruction that sets numbers, or nothing, and goes on.
func (m *Machine) set(i code.Inst) (event.State, bool) {
	m.pc++
	switch i.Op {
	case code.Init:
		m.numbers.setCount(i.X, 0)
	case code.Mark:
		m.numbers.setBegin(i.X, m.pos)
	case code.Open:
		m.numbers.setOpen(i.X, m.pos)
		return m.plain(event.Open, i)
	case code.Close:
		m.numbers.setSpan(i.X, m.numbers.open(i.X), m.pos)
		return m.plain(event.Close, i)
	}
	return quiet()
}

// take goes on at a place of the text, or fails.
func (m *Machine) take(i code.Inst, to int, ok bool) (event.State, bool) {
	if !ok {
		return m.miss(i, 0)
	}
	m.pos = to
	m.pc++
	return m.plain(event.Step, i)
}

// hold goes on where something holds, or fails.
func (m *Machine) hold(i code.Inst) (event.State, bool) {
	if !m.text.Hold(i.X, m.pos) {
		return m.miss(i, 0)
	}
	m.pc++
	return m.plain(event.Held, i)
}

// fork lets one way wait, and goes another one.
func (m *Machine) fork(i code.Inst, phase, other, to int) (event.State, bool) {
	if !m.wait(pile.Entry{Pc: other, Origin: m.count}) {
		return quiet()
	}
	m.pc = to
	return m.tell(event.Fork, i.Node, phase, nowhere)
}

// loop makes a turn, or goes behind the loop, or lets one of both wait.
func (m *Machine) loop(i code.Inst) (event.State, bool) {
	many, c := m.numbers.count(i.X), m.program.Loops[i.X]
	switch {
	case many < c.Min:
		m.pc = i.Z
		return m.plain(event.Turn, i)
	case many == c.Max:
		m.pc = i.Y
		return quiet()
	case c.Mode == ast.Lazy:
		return m.fork(i, behind, m.pc+1, i.Y)
	}
	return m.fork(i, turn, m.pc+1, i.Z)
}

// endTurn ends a turn, or fails.
func (m *Machine) endTurn(i code.Inst) (event.State, bool) {
	many := m.numbers.count(i.X)
	if many >= m.program.Loops[i.X].Min && m.pos == m.numbers.begin(i.X) {
		return m.miss(i, empty)
	}
	m.numbers.setCount(i.X, many+1)
	m.pc = i.Y
	return quiet()
}

// into lets a barrier wait.
func (m *Machine) into(i code.Inst) (event.State, bool) {
	if !m.wait(pile.Entry{Bar: true, Pc: m.pc, Origin: m.count}) {
		return quiet()
	}
	m.pc++
	return m.plain(event.Into, i)
}

// retreat goes back by the least length, or fails.
func (m *Machine) retreat(i code.Inst) (event.State, bool) {
	if i.X > m.pos {
		return m.miss(i, 0)
	}
	if !m.retreatBy(i, i.X, m.count) {
		return quiet()
	}
	return m.tell(event.Fork, i.Node, i.X+1, nowhere)
}

// retreatBy goes back by a length, and lets the next one wait, if there is one.
func (m *Machine) retreatBy(i code.Inst, length, fork int) bool {
	if length < min(i.Y, m.pos) && !m.wait(pile.Entry{Pc: m.pc, Origin: fork, Val: length + 1}) {
		return false
	}
	m.pos -= length
	m.pc++
	return true
}

// meet goes on where the look stands, or fails.
func (m *Machine) meet(i code.Inst) (event.State, bool) {
	if bar, _ := m.waiting.Bar(); bar.Pos != m.pos {
		return m.miss(i, 0)
	}
	m.pc++
	return quiet()
}

// out cuts all that waits since an Into.
func (m *Machine) out(i code.Inst) (event.State, bool) {
	bar, _ := m.waiting.Cut()
	if i.Op == code.Refute {
		m.restore(bar)
		m.failed = true
		return m.tell(event.Out, i.Node, denied, bar.Origin)
	}
	if i.Op == code.Peek {
		m.pos = bar.Pos
	}
	m.pc++
	return m.tell(event.Out, i.Node, 0, bar.Origin)
}

// match ends the walk.
func (m *Machine) match(i code.Inst) (event.State, bool) {
	m.numbers.setSpan(0, m.start, m.pos)
	m.stop = Done
	return m.plain(event.Match, i)
}

// fail goes back to what waits on top, or, if nothing waits, on to the next attempt.
func (m *Machine) fail() (event.State, bool) {
	e, ok := m.waiting.Pop()
	if !ok {
		return m.attempt()
	}
	m.restore(e)
	m.pc, m.failed = e.Pc, false
	i := m.program.Insts[e.Pc]
	if e.Bar {
		return m.drop(i, e.Origin)
	}
	return m.again(i, e)
}

// attempt begins the next attempt, or ends the walk.
func (m *Machine) attempt() (event.State, bool) {
	m.numbers.undo(m.numbers.blank)
	if m.start == m.text.Len() {
		m.pos, m.stop = m.start, Done
		return m.tell(event.None, 0, 0, nowhere)
	}
	m.start++
	m.pc, m.pos, m.failed = 0, m.start, false
	return m.tell(event.Begin, 0, 0, nowhere)
}

// drop gives up what is within an Into, and goes on where that says, or fails further.
func (m *Machine) drop(i code.Inst, origin int) (event.State, bool) {
	if i.X == nowhere {
		m.failed = true
		return m.tell(event.Drop, i.Node, 0, origin)
	}
	m.pc = i.X
	return m.tell(event.Drop, i.Node, denied, origin)
}

// again goes the way that waited; where it leaves another one to wait, there is room: its own.
func (m *Machine) again(i code.Inst, e pile.Entry) (event.State, bool) {
	if i.Op == code.Retreat {
		m.retreatBy(i, e.Val, e.Origin)
		return m.tell(event.Again, i.Node, e.Val+1, e.Origin)
	}
	if i.X != nowhere {
		m.wait(pile.Entry{Pc: i.X, Origin: e.Origin})
	}
	m.pc++
	return m.tell(event.Again, i.Node, i.Phase, e.Origin)
}
