package parse

import (
	"bytes"
	"slices"

	"clew/api"
	"clew/ast"
	"clew/scan"
)

// parenthesis is what the one at the place makes of all up to where it is closed, and whether that may have a quantifier.
func (r *reader) parenthesis() (part, bool, fault) {
	if r.nest == api.MaxNest {
		return part{}, false, fault{api.ErrDeep, r.at}
	}
	switch {
	case !r.stands("(?"):
		return r.group("", r.at+1)
	case r.stands("(?#"):
		return r.remark()
	case r.stands("(?:"):
		return r.within(ast.Node{}, r.at+3, r.flags)
	case r.stands("(?>"):
		return r.within(ast.Node{Kind: ast.Atomic}, r.at+3, r.flags)
	case r.stands("(?="):
		return r.look(ast.Ahead, r.at+3)
	case r.stands("(?!"):
		return r.look(ast.NotAhead, r.at+3)
	case r.stands("(?<="):
		return r.look(ast.Behind, r.at+4)
	case r.stands("(?<!"):
		return r.look(ast.NotBehind, r.at+4)
	case r.stands("(?<"):
		return r.named(r.at + 3)
	}
	return r.flagged(r.at + 2)
}

// within is what stands from a place on, as the kid of a node (of the Kind 0: as it is), up to where the parenthesis at the reader's place is closed; the flags that hold there at first.
func (r *reader) within(n ast.Node, from int, inner flags) (part, bool, fault) {
	n.From = r.at
	outer := r.flags
	r.at, r.flags = from, inner
	r.nest++
	x, f := r.alternatives()
	r.nest--
	r.flags = outer
	if f.e != api.OK {
		return part{}, false, f
	}
	if r.at == len(r.p) {
		return part{}, false, fault{api.ErrParen, n.From}
	}
	r.at++
	if n.Kind == 0 {
		return x, true, fault{}
	}
	n.To = r.at
	return part{n, []part{x}}, true, fault{}
}

// look is a Look at what stands from a place on.
func (r *reader) look(num, from int) (part, bool, fault) {
	return r.within(ast.Node{Kind: ast.Look, Num: num}, from, r.flags)
}

// group is a Group of what stands from a place on, maybe with a name.
func (r *reader) group(name string, from int) (part, bool, fault) {
	num := len(r.names)
	if num > api.MaxGroups {
		return part{}, false, fault{api.ErrMany, r.at}
	}
	r.names = append(r.names, name)
	return r.within(ast.Node{Kind: ast.Group, Num: num, Name: name}, from, r.flags)
}

// named is a Group whose name begins at a place.
func (r *reader) named(at int) (part, bool, fault) {
	name, from, e := scan.Name(r.p, at)
	if e != api.OK {
		return part{}, false, fault{e, at}
	}
	if slices.Contains(r.names, name) {
		return part{}, false, fault{api.ErrTwice, at}
	}
	return r.group(name, from)
}

// remark is nothing.
func (r *reader) remark() (part, bool, fault) {
	n := bytes.IndexByte(r.p[r.at:], ')')
	if n < 0 {
		return part{}, false, fault{api.ErrParen, r.at}
	}
	r.at += n + 1
	return part{}, false, fault{}
}

// flagged is what flags whose letters begin at a place make: nothing, or what they stand ahead of, as it is.
func (r *reader) flagged(at int) (part, bool, fault) {
	now, to := r.letters(r.flags, at, true)
	if to < len(r.p) && r.p[to] == '-' {
		at = to + 1
		now, to = r.letters(now, at, false)
	}
	// Behind the last sign that isn't a letter, at least one letter has to stand.
	if to == at || to == len(r.p) {
		return part{}, false, fault{api.ErrFlag, to}
	}
	switch r.p[to] {
	case ')':
		r.at, r.flags = to+1, now
		return part{}, false, fault{}
	case ':':
		return r.within(ast.Node{}, to+1, now)
	}
	return part{}, false, fault{api.ErrFlag, to}
}

// letters are some flags, of which those are set, or are no longer, whose letters stand from a place on; and the place behind these.
func (r *reader) letters(now flags, at int, set bool) (flags, int) {
	for ; at < len(r.p); at++ {
		switch r.p[at] {
		case 'i':
			now.i = set
		case 'm':
			now.m = set
		case 's':
			now.s = set
		case 'x':
			now.x = set
		default:
			return now, at
		}
	}
	return now, at
}
