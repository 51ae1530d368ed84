package vm

import (
	"clew/code"
	"clew/undo"
)

// numbers are what is as it was again where a machine goes back: the Caps, where each group was opened, where each loop's turn began, and its count, one behind the other in a book.
type numbers struct {
	book *undo.Book
	// opened, began and counts are where these have their first number.
	opened, began, counts int
	// blank is how things are where an attempt begins.
	blank int
}

// numbersOf are a program's, where an attempt begins: no place is known, and no turn was made.
func numbersOf(p code.Program) numbers {
	n := numbers{opened: 2 * (p.Groups + 1)}
	n.began = n.opened + p.Groups
	n.counts = n.began + len(p.Loops)
	// A program that may be has by far fewer groups and loops than a book may have numbers, so there is no error.
	n.book, _ = undo.New(n.counts+len(p.Loops), nowhere)
	for x := range p.Loops {
		n.setCount(x, 0)
	}
	n.blank = n.mark()
	return n
}

// mark is how things are now.
func (n numbers) mark() int { return n.book.Mark() }

// undo lets all be as it was at a mark.
func (n numbers) undo(mark int) { n.book.Undo(mark) }

// get is the number at a place.
func (n numbers) get(at int) int {
	x, _ := n.book.Get(at)
	return x
}

// caps are the Caps of the whole, and of all groups.
func (n numbers) caps() []int { return n.book.Part(0, n.opened) }

// span is a group's, of which both places are -1 if it has none.
func (n numbers) span(group int) (int, int) { return n.get(2 * group), n.get(2*group + 1) }

// setSpan lets a group have a span.
func (n numbers) setSpan(group, from, to int) {
	n.book.Set(2*group, from)
	n.book.Set(2*group+1, to)
}

// open is where a group was opened.
func (n numbers) open(group int) int { return n.get(n.opened + group - 1) }

// setOpen lets a group be opened at a place.
func (n numbers) setOpen(group, at int) { n.book.Set(n.opened+group-1, at) }

// begin is where a loop's turn began.
func (n numbers) begin(loop int) int { return n.get(n.began + loop) }

// setBegin lets a loop's turn begin at a place.
func (n numbers) setBegin(loop, at int) { n.book.Set(n.began+loop, at) }

// count is how many turns of a loop there were.
func (n numbers) count(loop int) int { return n.get(n.counts + loop) }

// setCount lets a loop have had so many turns.
func (n numbers) setCount(loop, many int) { n.book.Set(n.counts+loop, many) }
