package delta_test

import (
	"encoding/binary"
	"math/big"
	"math/rand"
	"slices"

	"clew/api"
	"clew/event"
)

// field is one of a state's numbers: the ends of what it may be, and its part of a record's sum (of the Kind, which has none, 0).
type field struct {
	name   string
	of     func(s *event.State) *int
	lo, hi int
	part   uint64
}

// fields are all of them, in the chapter's order.
func fields() []field {
	return []field{
		{"Kind", func(s *event.State) *int { return &s.Kind }, 1, 14, 0},
		{"Node", func(s *event.State) *int { return &s.Node }, 0, 16384, 1},
		{"Phase", func(s *event.State) *int { return &s.Phase }, 0, 16384, 2},
		{"Pos", func(s *event.State) *int { return &s.Pos }, 0, 65536, 4},
		{"Start", func(s *event.State) *int { return &s.Start }, 0, 65536, 8},
		{"Depth", func(s *event.State) *int { return &s.Depth }, 0, 65536, 16},
		{"Origin", func(s *event.State) *int { return &s.Origin }, -1, 1048576, 32},
	}
}

// parts are the fields that have a part of the sum.
func parts() []field { return fields()[1:] }

// alike is whether two states are the same, number by number.
func alike(a, b event.State) bool {
	for _, f := range fields() {
		if *f.of(&a) != *f.of(&b) {
			return false
		}
	}
	return slices.Equal(a.Caps, b.Caps)
}

// may is whether a state may be, with so many Caps, as chapter 14 has it.
func may(s event.State, caps int) bool {
	ok := caps >= 2 && caps <= 200 && caps%2 == 0 && len(s.Caps) == caps
	for _, f := range fields() {
		x := *f.of(&s)
		ok = ok && f.lo <= x && x <= f.hi
	}
	for _, x := range s.Caps {
		ok = ok && -1 <= x && x <= 65536
	}
	return ok
}

// base is whether a state may be one.
func base(s event.State) bool {
	blank := event.State{Origin: -1, Caps: so(-1, len(s.Caps))}
	even := len(s.Caps) >= 2 && len(s.Caps) <= 200 && len(s.Caps)%2 == 0
	return may(s, len(s.Caps)) || even && alike(s, blank)
}

// so is a number again and again.
func so(x, many int) []int { return slices.Repeat([]int{x}, many) }

// blank is the state ahead of all.
func blank(groups int) event.State {
	return event.State{Origin: -1, Caps: so(-1, 2*groups+2)}
}

// sample is a state that may be with so many groups, all of whose numbers differ.
func sample(groups int) event.State {
	s := event.State{Kind: 7, Node: 300, Phase: 200, Pos: 1100, Start: 500, Depth: 400, Origin: 900}
	for i := range groups + 1 {
		s.Caps = append(s.Caps, 2000+i, 4000+i)
	}
	return s
}

// own is the same state in memory of its own, with nothing spare.
func own(s event.State) event.State {
	s.Caps = slices.Clip(slices.Clone(s.Caps))
	return s
}

// record is a state's, by the chapter's list, with the library's numbers of as many bits a byte.
func record(was, now event.State) []byte {
	var sum uint64
	var more []byte
	for _, f := range parts() {
		if d := *f.of(&now) - *f.of(&was); d != 0 {
			sum += f.part
			more = binary.AppendVarint(more, int64(d))
		}
	}
	var places []int
	for i := range now.Caps {
		if now.Caps[i] != was.Caps[i] {
			places = append(places, i)
		}
	}
	if len(places) > 0 {
		sum += 64
		more = binary.AppendUvarint(more, uint64(len(places)))
	}
	for i, place := range places {
		ahead := place
		if i > 0 {
			ahead = place - places[i-1] - 1
		}
		more = binary.AppendUvarint(more, uint64(ahead))
		more = binary.AppendVarint(more, int64(now.Caps[place]-was.Caps[place]))
	}
	b := binary.AppendUvarint(nil, uint64(now.Kind))
	b = binary.AppendUvarint(b, sum)
	return append(b, more...)
}

// taken is a number that stands ahead in bytes, and what is behind it.
func taken(b []byte) (*big.Int, []byte, api.Errno) {
	n, size := binary.Uvarint(b)
	switch {
	case size < 0 || size == 0 && len(b) >= 10:
		return nil, nil, api.ErrForm
	case size == 0:
		return nil, nil, api.ErrShort
	case size > 1 && b[size-1] == 0:
		return nil, nil, api.ErrForm
	}
	return new(big.Int).SetUint64(n), b[size:], api.OK
}

// signed is the number that is written by another one: half of it, or, of an odd one, as much below 0, and one.
func signed(n *big.Int) *big.Int {
	half := new(big.Int).Rsh(n, 1)
	if n.Bit(0) == 1 {
		return half.Not(half)
	}
	return half
}

// modelRead is the chapter's list, number by number, each of any size.
func modelRead(was event.State, b []byte) (event.State, int, api.Errno) {
	rest, fault := b, api.OK
	next := func(lo, hi int64) *big.Int {
		if fault != api.OK {
			return new(big.Int)
		}
		n, behind, e := taken(rest)
		if e == api.OK && (n.Cmp(big.NewInt(lo)) < 0 || hi >= 0 && n.Cmp(big.NewInt(hi)) > 0) {
			e = api.ErrForm
		}
		if e != api.OK {
			fault = e
			return new(big.Int)
		}
		rest = behind
		return n
	}
	wrong := false
	add := func(x, lo, hi int) int {
		sum := new(big.Int).Add(big.NewInt(int64(x)), signed(next(1, -1)))
		wrong = wrong || sum.Cmp(big.NewInt(int64(lo))) < 0 || sum.Cmp(big.NewInt(int64(hi))) > 0
		return int(sum.Int64())
	}
	now := own(was)
	now.Kind = int(next(0, 14).Int64())
	wrong = now.Kind == 0
	sum := next(0, 127).Uint64()
	for _, f := range parts() {
		if sum/f.part%2 == 1 {
			*f.of(&now) = add(*f.of(&now), f.lo, f.hi)
		}
	}
	if sum >= 64 {
		place := int64(-1)
		last := int64(len(now.Caps)) - 1
		for range next(1, last+1).Int64() {
			if fault == api.OK && place == last {
				// No gap there is that would be of a place: the number is read for its own errors.
				if next(0, -1); fault == api.OK {
					fault = api.ErrForm
				}
			}
			place += next(0, last-place-1).Int64() + 1
			if fault != api.OK {
				break
			}
			now.Caps[place] = add(now.Caps[place], -1, 65536)
		}
	}
	if fault == api.OK && wrong {
		fault = api.ErrForm
	}
	if fault != api.OK {
		return event.State{}, 0, fault
	}
	return now, len(b) - len(rest), api.OK
}

// within is a number from lo to hi: often an end, often a small one more.
func within(r *rand.Rand, lo, hi int) int {
	switch r.Intn(4) {
	case 0:
		return lo
	case 1:
		return hi
	case 2:
		return min(hi, lo+r.Intn(130))
	}
	return lo + r.Intn(hi-lo+1)
}

// grown is a state that may be, with so many groups.
func grown(r *rand.Rand, groups int) event.State {
	s := blank(groups)
	for _, f := range fields() {
		*f.of(&s) = within(r, f.lo, f.hi)
	}
	for i := range s.Caps {
		s.Caps[i] = within(r, -1, 65536)
	}
	return s
}

// changed is another one behind it: a few of its numbers are others.
func changed(r *rand.Rand, s event.State) event.State {
	s = own(s)
	s.Kind = 1 + r.Intn(14)
	for _, f := range parts() {
		if r.Intn(3) == 0 {
			*f.of(&s) = within(r, f.lo, f.hi)
		}
	}
	for range r.Intn(4) {
		s.Caps[r.Intn(len(s.Caps))] = within(r, -1, 65536)
	}
	return s
}

// uvarint are the bytes of a number, varint those of one with a sign.
func uvarint(n int) []byte { return binary.AppendUvarint(nil, uint64(n)) }
func varint(n int) []byte  { return binary.AppendVarint(nil, int64(n)) }
