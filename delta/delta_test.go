package delta_test

import (
	"bytes"
	"math"
	"math/rand"
	"slices"
	"testing"

	"clew/api"
	"clew/delta"
	"clew/event"
)

// is holds the record of a state behind another one to be these bytes, by Bytes, by the model, and read again.
func is(t *testing.T, was, now event.State, want string) {
	t.Helper()
	if b, e := delta.Bytes(was, now); e != api.OK || string(b) != want {
		t.Errorf("Bytes(%v, %v) = %x, %d; want %x", was, now, b, e, want)
	}
	if b := record(was, now); string(b) != want {
		t.Errorf("the model of %v, %v: %x; want %x", was, now, b, want)
	}
	if s, size, e := delta.Read(was, []byte(want), 0); e != api.OK || size != len(want) || !alike(s, now) {
		t.Errorf("Read(%v, %x) = %v, %d, %d; want %v", was, want, s, size, e, now)
	}
}

// both holds a state's record behind another one to be the model's, and to be read again, alone and between other bytes.
func both(t *testing.T, was, now event.State) {
	t.Helper()
	want := record(was, now)
	b, e := delta.Bytes(was, now)
	if e != api.OK || !bytes.Equal(b, want) {
		t.Fatalf("Bytes(%v, %v) = %x, %d; want %x", was, now, b, e, want)
	}
	for _, ahead := range []string{"", "\x00", "\x80", "\x01\x00\xff"} {
		for _, behind := range []string{"", "\x00", "\x80", "\xff\x01"} {
			all := slices.Concat([]byte(ahead), b, []byte(behind))
			s, size, e := delta.Read(was, all, len(ahead))
			if e != api.OK || size != len(b) || !alike(s, now) {
				t.Fatalf("Read(%v, %x, %d) = %v, %d, %d; want %v", was, all, len(ahead), s, size, e, now)
			}
		}
	}
}

// noBytes holds Bytes to be refused.
func noBytes(t *testing.T, was, now event.State) {
	t.Helper()
	if b, e := delta.Bytes(was, now); e != api.ErrForm || len(b) != 0 {
		t.Errorf("Bytes(%v, %v) = %x, %d", was, now, b, e)
	}
}

// noRead holds Read to be refused, with nothing beside the error.
func noRead(t *testing.T, was event.State, b []byte, at int, want api.Errno) {
	t.Helper()
	if s, size, e := delta.Read(was, b, at); e != want || size != 0 || !alike(s, event.State{}) {
		t.Errorf("Read(%v, %x, %d) = %v, %d, %d; want %d", was, b, at, s, size, e, want)
	}
}

// noBases are states that may be no base, whatever stands behind them.
func noBases() []event.State {
	l := []event.State{
		{}, {Caps: []int{}}, {Kind: 1}, {Origin: -1}, {Kind: 1, Origin: -1, Caps: []int{}},
		// Noughts that aren't a Blank's.
		{Caps: so(-1, 2)}, {Origin: -1, Caps: so(0, 2)}, {Origin: -1, Caps: []int{-1, 0}}, {Origin: -1, Caps: []int{0, -1}}, {Origin: -2, Caps: so(-1, 2)},
	}
	// Each number beyond its ends, and a Blank with just one number that isn't a Blank's.
	for _, f := range fields() {
		for _, x := range []int{f.lo - 1, f.hi + 1, math.MinInt, math.MaxInt, f.lo - 1<<32, f.lo + 1<<32} {
			s := sample(1)
			*f.of(&s) = x
			l = append(l, s)
		}
		if f.name == "Kind" {
			continue
		}
		s := blank(1)
		*f.of(&s)++
		l = append(l, s)
		s = blank(1)
		*f.of(&s)--
		l = append(l, s)
	}
	for i := range 4 {
		for _, x := range []int{-2, 65537, math.MinInt, math.MaxInt, 1 << 32} {
			s := sample(1)
			s.Caps[i] = x
			l = append(l, s)
		}
		s := blank(1)
		s.Caps[i] = 0
		l = append(l, s)
	}
	// Numbers of Caps that no number of groups has.
	for _, caps := range []int{0, 1, 3, 5, 101, 199, 201, 202, 203, 300} {
		l = append(l, event.State{Origin: -1, Caps: so(-1, caps)}, event.State{Kind: 2, Caps: so(7, caps)})
	}
	return l
}

// P18.1: records.

func TestExamples(t *testing.T) {
	begin := event.State{Kind: event.Begin, Origin: -1, Caps: []int{-1, -1}}
	is(t, event.Blank(0), begin, "\x01\x00")
	is(t, begin, event.State{Kind: event.Step, Node: 2, Pos: 1, Origin: -1, Caps: []int{-1, -1}}, "\x02\x05\x04\x02")
}

// The walk of "a|b" over "b", from chapter 14.
func TestWalk(t *testing.T) {
	was := event.Blank(0)
	for _, x := range []struct {
		s    event.State
		want string
	}{
		{event.State{Kind: event.Begin, Origin: -1, Caps: []int{-1, -1}}, "\x01\x00"},
		{event.State{Kind: event.Fork, Depth: 1, Origin: -1, Caps: []int{-1, -1}}, "\x06\x10\x02"},
		{event.State{Kind: event.Miss, Node: 1, Depth: 1, Origin: -1, Caps: []int{-1, -1}}, "\x03\x01\x02"},
		{event.State{Kind: event.Again, Phase: 1, Origin: 1, Caps: []int{-1, -1}}, "\x07\x33\x01\x02\x01\x04"},
		{event.State{Kind: event.Step, Node: 2, Pos: 1, Origin: -1, Caps: []int{-1, -1}}, "\x02\x27\x04\x01\x02\x03"},
		{event.State{Kind: event.Match, Pos: 1, Origin: -1, Caps: []int{0, 1}}, "\x0d\x41\x03\x02\x00\x02\x00\x04"},
	} {
		is(t, was, x.s, x.want)
		was = x.s
	}
}

// Nothing is another thing but the Kind, or not even that.
func TestNothingElse(t *testing.T) {
	for kind := 1; kind <= 14; kind++ {
		for _, groups := range []int{0, 1, 99} {
			s := sample(groups)
			s.Kind = kind
			is(t, sample(groups), s, string([]byte{byte(kind), 0}))
			is(t, s, s, string([]byte{byte(kind), 0}))
			s = blank(groups)
			s.Kind = kind
			is(t, blank(groups), s, string([]byte{byte(kind), 0}))
		}
	}
}

// Each number alone, up and down, by one byte and by several.
func TestEachNumber(t *testing.T) {
	for _, f := range parts() {
		for d, want := range map[int]string{1: "\x02", -1: "\x01", 63: "\x7e", -64: "\x7f", 64: "\x80\x01", -65: "\x81\x01", 100: "\xc8\x01", -100: "\xc7\x01"} {
			s := sample(1)
			*f.of(&s) += d
			is(t, sample(1), s, "\x07"+string([]byte{byte(f.part)})+want)
		}
	}
}

// From each number's one end to the other one, and back.
func TestEachNumberEnds(t *testing.T) {
	for i, want := range []struct{ up, down string }{
		{"\x80\x80\x02", "\xff\xff\x01"}, {"\x80\x80\x02", "\xff\xff\x01"},
		{"\x80\x80\x08", "\xff\xff\x07"}, {"\x80\x80\x08", "\xff\xff\x07"}, {"\x80\x80\x08", "\xff\xff\x07"},
		{"\x82\x80\x80\x01", "\x81\x80\x80\x01"},
	} {
		f := parts()[i]
		lo, hi := sample(0), sample(0)
		*f.of(&lo), *f.of(&hi) = f.lo, f.hi
		is(t, lo, hi, "\x07"+string([]byte{byte(f.part)})+want.up)
		is(t, hi, lo, "\x07"+string([]byte{byte(f.part)})+want.down)
	}
}

// All numbers at one time stand in their order.
func TestAllNumbers(t *testing.T) {
	was := event.State{Kind: event.Into, Node: 10, Phase: 20, Pos: 30, Start: 40, Depth: 50, Origin: 60, Caps: []int{70, 80}}
	now := event.State{Kind: event.Out, Node: 11, Phase: 22, Pos: 33, Start: 36, Depth: 45, Origin: 54, Caps: []int{71, 78}}
	is(t, was, now, "\x0b\x7f\x02\x04\x06\x07\x09\x0b\x02\x00\x02\x00\x03")
	is(t, now, was, "\x0a\x7f\x01\x03\x05\x08\x0a\x0c\x02\x00\x01\x00\x04")
	now.Caps = was.Caps
	is(t, was, now, "\x0b\x3f\x02\x04\x06\x07\x09\x0b")
	now.Pos, now.Origin = was.Pos, was.Origin
	is(t, was, now, "\x0b\x1b\x02\x04\x07\x09")
}

// Each set of numbers that are others has a sum of its own.
func TestEachSum(t *testing.T) {
	for sum := range 128 {
		now := sample(1)
		for i, f := range parts() {
			if sum>>i%2 == 1 {
				*f.of(&now) += 1 + i
			}
		}
		if sum >= 64 {
			now.Caps[2]--
		}
		b, e := delta.Bytes(sample(1), now)
		if e != api.OK || len(b) < 2 || b[0] != 7 || b[1] != byte(sum) {
			t.Errorf("%d: %x, %d", sum, b, e)
		}
		both(t, sample(1), now)
	}
}

// How far Caps that are others are from one another, and how many there are.
func TestCaps(t *testing.T) {
	at := func(places ...int) event.State {
		s := sample(99)
		for _, place := range places {
			s.Caps[place] += 5
		}
		return s
	}
	was := sample(99)
	is(t, was, at(0), "\x07\x40\x01\x00\x0a")
	is(t, was, at(1), "\x07\x40\x01\x01\x0a")
	is(t, was, at(127), "\x07\x40\x01\x7f\x0a")
	is(t, was, at(128), "\x07\x40\x01\x80\x01\x0a")
	is(t, was, at(199), "\x07\x40\x01\xc7\x01\x0a")
	is(t, was, at(0, 1), "\x07\x40\x02\x00\x0a\x00\x0a")
	is(t, was, at(0, 2), "\x07\x40\x02\x00\x0a\x01\x0a")
	is(t, was, at(3, 4, 9), "\x07\x40\x03\x03\x0a\x00\x0a\x04\x0a")
	is(t, was, at(0, 199), "\x07\x40\x02\x00\x0a\xc6\x01\x0a")
	is(t, was, at(70, 199), "\x07\x40\x02\x46\x0a\x80\x01\x0a")
	is(t, was, at(71, 199), "\x07\x40\x02\x47\x0a\x7f\x0a")
	is(t, was, at(198, 199), "\x07\x40\x02\xc6\x01\x0a\x00\x0a")
	all := ""
	places := []int{}
	for i := range 200 {
		all += "\x00\x0a"
		places = append(places, i)
	}
	is(t, was, at(places...), "\x07\x40\xc8\x01"+all)
	is(t, was, at(places[:128]...), "\x07\x40\x80\x01"+all[:256])
	is(t, was, at(places[73:]...), "\x07\x40\x7f\x49\x0a"+all[:252])
}

// By how much Caps are others.
func TestCapsMore(t *testing.T) {
	for _, x := range []struct {
		was, now int
		want     string
	}{
		{-1, 0, "\x02"}, {0, -1, "\x01"}, {-1, 65536, "\x82\x80\x08"}, {65536, -1, "\x81\x80\x08"}, {0, 65536, "\x80\x80\x08"}, {65536, 0, "\xff\xff\x07"}, {5, 69, "\x80\x01"}, {69, 5, "\x7f"}, {7, 8, "\x02"},
	} {
		for place := range 4 {
			was, now := sample(1), sample(1)
			was.Caps[place], now.Caps[place] = x.was, x.now
			is(t, was, now, "\x07\x40\x01"+string([]byte{byte(place)})+x.want)
		}
	}
}

// All sets of Caps that are others.
func TestCapsEachSet(t *testing.T) {
	for set := range 1 << 8 {
		now := sample(3)
		for i := range now.Caps {
			now.Caps[i] -= set >> i % 2 * (i + 1)
		}
		both(t, sample(3), now)
	}
}

// States that may be, behind others and behind Blank, with each number of groups.
func TestGrown(t *testing.T) {
	r := rand.New(rand.NewSource(18))
	for groups := range 100 {
		both(t, blank(groups), sample(groups))
		was := blank(groups)
		for range 20 {
			now := grown(r, groups)
			both(t, was, now)
			next := changed(r, now)
			both(t, now, next)
			was = next
		}
	}
}

// P18.1: what is refused.

func TestBytesNoBase(t *testing.T) {
	for _, s := range noBases() {
		noBytes(t, s, s)
		for _, groups := range []int{0, 1, 99} {
			noBytes(t, s, sample(groups))
			noBytes(t, s, blank(groups))
		}
		now := own(s)
		now.Kind, now.Origin = 1, 0
		noBytes(t, s, now)
	}
}

// What is told has to be a state: not even Blank will do.
func TestBytesNoState(t *testing.T) {
	for _, s := range append(noBases(), blank(0), blank(1), blank(99)) {
		noBytes(t, blank(max(len(s.Caps)/2-1, 0)), s)
		for _, groups := range []int{0, 1, 99} {
			noBytes(t, sample(groups), s)
			noBytes(t, blank(groups), s)
		}
	}
}

func TestBytesGroups(t *testing.T) {
	for a := range 100 {
		for b := range 100 {
			if a == b {
				both(t, sample(a), sample(b))
				continue
			}
			noBytes(t, sample(a), sample(b))
			noBytes(t, blank(a), sample(b))
		}
	}
}

// Each number at its ends is told, beyond them it isn't, of the base and of what is behind it.
func TestEdges(t *testing.T) {
	for _, f := range fields() {
		for x, ok := range map[int]bool{f.lo - 1: false, f.lo: true, f.hi: true, f.hi + 1: false} {
			s := sample(1)
			*f.of(&s) = x
			if ok {
				both(t, s, sample(1))
				both(t, sample(1), s)
				both(t, blank(1), s)
				continue
			}
			noBytes(t, s, sample(1))
			noBytes(t, sample(1), s)
			noBytes(t, blank(1), s)
			noRead(t, s, []byte{1, 0}, 0, api.ErrForm)
		}
	}
}

// P18.2: what stands at a place.

// Records one behind the other are found by how many bytes each has.
func TestReadOneBehindTheOther(t *testing.T) {
	r := rand.New(rand.NewSource(182))
	for _, groups := range []int{0, 1, 2, 99} {
		states := []event.State{blank(groups)}
		var all []byte
		for i := range 200 {
			now := changed(r, states[i])
			b, e := delta.Bytes(states[i], now)
			if e != api.OK {
				t.Fatal(e)
			}
			states, all = append(states, now), append(all, b...)
		}
		at := 0
		for i, was := range states[:200] {
			s, size, e := delta.Read(was, all, at)
			if e != api.OK || !alike(s, states[i+1]) {
				t.Fatalf("the state %d at %d: %v, %d; want %v", i, at, s, e, states[i+1])
			}
			at += size
		}
		if at != len(all) {
			t.Errorf("%d bytes of %d", at, len(all))
		}
		noRead(t, states[200], all, at, api.ErrShort)
	}
}

func TestReadNoBase(t *testing.T) {
	for _, s := range noBases() {
		// The base is looked at first, then the place, then the bytes.
		for _, at := range []int{0, 1, 2, 3, -1, math.MinInt, math.MaxInt} {
			noRead(t, s, []byte{1, 0}, at, api.ErrForm)
			noRead(t, s, nil, at, api.ErrForm)
		}
	}
}

func TestReadOutOfRange(t *testing.T) {
	for _, was := range []event.State{blank(0), sample(0), blank(99), sample(99)} {
		for _, b := range []string{"", "\x01", "\x01\x00", "\x00\x00", "\x0f", "\x80"} {
			for _, at := range []int{-1, -2, len(b) + 1, len(b) + 2, 1 << 32, -1 << 32, math.MinInt, math.MinInt + 1, math.MaxInt - 1, math.MaxInt} {
				noRead(t, was, []byte(b), at, api.ErrRange)
			}
			noRead(t, was, []byte(b), len(b), api.ErrShort)
		}
	}
}

// A record of which something is missing is short, wherever it ends.
func TestReadShort(t *testing.T) {
	r := rand.New(rand.NewSource(1802))
	for range 500 {
		was := grown(r, r.Intn(4))
		now := changed(r, was)
		b, e := delta.Bytes(was, now)
		if e != api.OK {
			t.Fatal(e)
		}
		for size := range b {
			noRead(t, was, slices.Clone(b[:size]), 0, api.ErrShort)
			// What is in the spare room isn't there.
			noRead(t, was, b[:size], 0, api.ErrShort)
			noRead(t, was, slices.Concat([]byte{9}, b[:size]), 1, api.ErrShort)
		}
	}
}

// Each number that can't be there, and what is told if more is wrong.
func TestReadErrors(t *testing.T) {
	const most = "\xff\xff\xff\xff\xff\xff\xff\xff\xff\x01"
	for _, x := range []struct {
		b    string
		want api.Errno
	}{
		// A Kind above 14, at once; one that is 0 behind all numbers.
		{"\x0e\x00", api.OK}, {"\x0f\x00", api.ErrForm}, {"\x0f", api.ErrForm}, {"\x10", api.ErrForm}, {"\x7f", api.ErrForm}, {"\x81\x01", api.ErrForm}, {"\x81\x02\x00", api.ErrForm}, {most, api.ErrForm}, {"\x81\x80\x80\x80\x10\x00", api.ErrForm},
		{"\x00\x00", api.ErrForm}, {"\x00", api.ErrShort}, {"\x00\x01", api.ErrShort}, {"\x00\x01\x02", api.ErrForm}, {"\x00\x40\x01\x00", api.ErrShort}, {"\x00\x40\x01\x00\x02", api.ErrForm},
		// Bytes that are no number.
		{"", api.ErrShort}, {"\x80", api.ErrShort}, {"\x81\x00", api.ErrForm}, {"\x80\x00", api.ErrForm}, {"\x02\x80", api.ErrShort}, {"\x02\x80\x00", api.ErrForm}, {"\x02\x81\x00\x02", api.ErrForm}, {"\x02\x01\x80", api.ErrShort}, {"\x02\x01\x80\x00", api.ErrForm}, {"\x02\x01\x82\x00", api.ErrForm}, {"\x02\x01\x80\x80\x80\x80\x80\x80\x80\x80\x80\x02", api.ErrForm}, {"\x02\x01\x80\x80\x80\x80\x80\x80\x80\x80\x80", api.ErrShort},
		{"\x02\x40\x81\x00", api.ErrForm}, {"\x02\x40\x80", api.ErrShort}, {"\x02\x40\x01\x80", api.ErrShort}, {"\x02\x40\x01\x81\x00", api.ErrForm}, {"\x02\x40\x01\x01\x80", api.ErrShort}, {"\x02\x40\x01\x01\x82\x00", api.ErrForm},
		// A sum above 127, at once.
		{"\x02\x80\x01", api.ErrForm}, {"\x02\x81\x01", api.ErrForm}, {"\x02\x80\x02", api.ErrForm}, {"\x02" + most, api.ErrForm}, {"\x02\xc1\x01\x02", api.ErrForm}, {"\x02\x80\x80\x80\x80\x10", api.ErrForm},
		// Nothing more, of each number, at once.
		{"\x02\x01\x00", api.ErrForm}, {"\x02\x02\x00", api.ErrForm}, {"\x02\x04\x00", api.ErrForm}, {"\x02\x08\x00", api.ErrForm}, {"\x02\x10\x00", api.ErrForm}, {"\x02\x20\x00", api.ErrForm}, {"\x02\x03\x00", api.ErrForm}, {"\x02\x03\x02\x00", api.ErrForm}, {"\x02\x41\x00", api.ErrForm}, {"\x02\x3f\x02\x02\x02\x02\x02\x00", api.ErrForm}, {"\x02\x3f\x02\x02\x02\x02\x02\x02", api.OK}, {"\x02\x3f\x02\x02\x02\x02\x02", api.ErrShort},
		// No Caps that are others, or more than there are, at once.
		{"\x02\x40", api.ErrShort}, {"\x02\x40\x00", api.ErrForm}, {"\x02\x40\x03", api.ErrForm}, {"\x02\x40\x02", api.ErrShort}, {"\x02\x40" + most, api.ErrForm}, {"\x02\x40\x81\x80\x80\x80\x10\x00\x02", api.ErrForm}, {"\x02\x40\x81\x02\x00\x02", api.ErrForm},
		// A place beyond the last one, at once.
		{"\x02\x40\x01\x00\x02", api.OK}, {"\x02\x40\x01\x01\x02", api.OK}, {"\x02\x40\x01\x02", api.ErrForm}, {"\x02\x40\x01\x02\x02", api.ErrForm}, {"\x02\x40\x01\x01", api.ErrShort}, {"\x02\x40\x01" + most, api.ErrForm}, {"\x02\x40\x01" + most + "\x02", api.ErrForm}, {"\x02\x40\x01\x80\x80\x80\x80\x10\x02", api.ErrForm}, {"\x02\x40\x01\x81\x02\x02", api.ErrForm},
		{"\x02\x40\x02\x00\x02\x00\x02", api.OK}, {"\x02\x40\x02\x00\x02\x01", api.ErrForm}, {"\x02\x40\x02\x00\x02\x00", api.ErrShort}, {"\x02\x40\x02\x00\x02" + most, api.ErrForm}, {"\x02\x40\x02\x01\x02\x00", api.ErrForm}, {"\x02\x40\x02\x01\x02\x05", api.ErrForm}, {"\x02\x40\x02\x01\x02" + most, api.ErrForm},
		// Where two can't be, there is room for the first one; what is missing behind it comes first.
		{"\x02\x40\x02\x01", api.ErrShort}, {"\x02\x40\x02\x01\x02", api.ErrShort}, {"\x02\x40\x02\x01\x02\x80", api.ErrShort}, {"\x02\x40\x02\x01\x00", api.ErrForm},
		// Nothing more, of one of the Caps, at once.
		{"\x02\x40\x01\x00\x00", api.ErrForm}, {"\x02\x40\x02\x00\x00", api.ErrForm}, {"\x02\x40\x02\x00\x02\x00\x00", api.ErrForm},
		// What is beyond its ends, behind all numbers.
		{"\x02\x01\x01", api.ErrForm}, {"\x02\x03\x01", api.ErrShort}, {"\x02\x03\x01\x00", api.ErrForm}, {"\x02\x03\x01\x80", api.ErrShort}, {"\x02\x41\x01", api.ErrShort}, {"\x02\x41\x01\x01\x00", api.ErrShort}, {"\x02\x41\x01\x01\x00\x02", api.ErrForm},
		{"\x02\x20\x01", api.ErrForm}, {"\x02\x60\x01\x01", api.ErrShort}, {"\x02\x20\x02", api.OK}, {"\x02\x40\x01\x00\x01", api.ErrForm}, {"\x02\x40\x02\x00\x01", api.ErrShort}, {"\x02\x40\x02\x00\x01\x00\x02", api.ErrForm}, {"\x02\x40\x02\x00\x02\x00\x01", api.ErrForm},
		{"\x02\x01\x80\x80\x02", api.OK}, {"\x02\x01\x82\x80\x02", api.ErrForm}, {"\x02\x40\x01\x01\x82\x80\x08", api.OK}, {"\x02\x40\x01\x01\x84\x80\x08", api.ErrForm},
		// Sums that have no room in a number come to none that may be.
		{"\x02\x01" + most, api.ErrForm}, {"\x02\x05" + most, api.ErrShort}, {"\x02\x05" + most + "\x02", api.ErrForm}, {"\x02\x01\xfe\xff\xff\xff\xff\xff\xff\xff\xff\x01", api.ErrForm}, {"\x02\x20" + most, api.ErrForm}, {"\x02\x40\x01\x00" + most, api.ErrForm}, {"\x02\x40\x02\x00" + most, api.ErrShort}, {"\x02\x40\x02\x00" + most + "\x00\x02", api.ErrForm},
		{"\x02\x01\x82\x80\x80\x80\x20", api.ErrForm}, {"\x02\x01\x80\x80\x80\x80\x20", api.ErrForm},
	} {
		was := blank(0)
		s, size, e := delta.Read(was, []byte(x.b), 0)
		if e != x.want || e == api.OK && size != len(x.b) {
			t.Errorf("Read(%x) = %v, %d, %d; want %d", x.b, s, size, e, x.want)
		}
		if _, _, e := modelRead(was, []byte(x.b)); e != x.want {
			t.Errorf("the model of %x: %d; want %d", x.b, e, x.want)
		}
		if x.want != api.OK {
			noRead(t, was, []byte("\x80\x01"+x.b), 2, x.want)
		}
		if x.want == api.ErrForm {
			// What is behind the wrong number has no part in it.
			noRead(t, was, []byte(x.b+"\x80"), 0, x.want)
			noRead(t, was, []byte(x.b+"\x02\x02\x02\x02"), 0, x.want)
		}
	}
}

// Sums that go beyond all numbers, from the greatest and the least bases.
func TestReadBeyond(t *testing.T) {
	greatest := event.State{Kind: 14, Node: 16384, Phase: 16384, Pos: 65536, Start: 65536, Depth: 65536, Origin: 1048576, Caps: so(65536, 200)}
	least := event.State{Kind: 1, Origin: -1, Caps: so(-1, 200)}
	for _, was := range []event.State{greatest, least} {
		for _, d := range []int{math.MaxInt, math.MaxInt - 1, math.MinInt, math.MinInt + 1, 1 << 62, -1 << 62, 1 << 32, -1 << 32, 1 << 31, 1 << 21, -1 << 21} {
			more := varint(d)
			for _, f := range parts() {
				noRead(t, was, append([]byte{2, byte(f.part)}, more...), 0, api.ErrForm)
			}
			noRead(t, was, append([]byte{2, 64, 1, 0}, more...), 0, api.ErrForm)
			noRead(t, was, append([]byte{2, 64, 1, 0xc7, 1}, more...), 0, api.ErrForm)
		}
	}
}

// How many Caps there are bounds how many are others, and their places.
func TestReadCapsBounds(t *testing.T) {
	for groups := range 100 {
		caps := 2*groups + 2
		was := blank(groups)
		head := []byte{2, 64}
		last := slices.Concat(head, []byte{1}, uvarint(caps-1), []byte{2})
		want := blank(groups)
		want.Kind, want.Caps[caps-1] = 2, 0
		is(t, was, want, string(last))
		noRead(t, was, slices.Concat(head, []byte{1}, uvarint(caps), []byte{2}), 0, api.ErrForm)
		noRead(t, was, slices.Concat(head, []byte{1}, uvarint(caps)), 0, api.ErrForm)
		noRead(t, was, slices.Concat(head, uvarint(caps)), 0, api.ErrShort)
		noRead(t, was, slices.Concat(head, uvarint(caps+1)), 0, api.ErrForm)
		noRead(t, was, slices.Concat(head, []byte{2}, uvarint(caps-2), []byte{2, 1}), 0, api.ErrForm)
		noRead(t, was, slices.Concat(head, []byte{2}, uvarint(caps-1), []byte{2, 0}), 0, api.ErrForm)
	}
}

// agree holds Read to tell what the model does, and what it tells to be told as these bytes again.
func agree(t *testing.T, was event.State, b []byte) {
	t.Helper()
	s, size, e := delta.Read(was, b, 0)
	want, many, fault := modelRead(was, b)
	if e != fault || size != many || !alike(s, want) {
		t.Fatalf("Read(%v, %x) = %v, %d, %d; want %v, %d, %d", was, b, s, size, e, want, many, fault)
	}
	if e != api.OK {
		return
	}
	if again, e := delta.Bytes(was, s); e != api.OK || !bytes.Equal(again, b[:size]) {
		t.Fatalf("Bytes(%v, %v) = %x, %d; want %x", was, s, again, e, b[:size])
	}
}

// All lists of a few bytes, of those that matter.
func TestReadAllShort(t *testing.T) {
	signs := []byte{0, 1, 2, 3, 0x0e, 0x0f, 0x40, 0x41, 0x42, 0x7f, 0x80, 0xff}
	bases := []event.State{blank(0), {Kind: 2, Node: 1, Phase: 1, Pos: 1, Start: 1, Depth: 1, Origin: 1, Caps: []int{0, 1}}, blank(1)}
	var all func(b []byte, more int)
	all = func(b []byte, more int) {
		for _, was := range bases {
			agree(t, was, b)
		}
		if more == 0 {
			return
		}
		for _, x := range signs {
			all(append(slices.Clip(b), x), more-1)
		}
	}
	all(nil, 4)
	// Longer ones behind heads that go on.
	for _, head := range []string{"\x02\x40", "\x02\x41", "\x02\x40\x02", "\x02\x40\x01\x01", "\x02\x40\x02\x00\x02", "\x02\x40\x03\x00\x02\x01\x02"} {
		all([]byte(head), 3)
	}
}

// Each pair of bytes, alone and ahead of others.
func TestReadAllPairs(t *testing.T) {
	for pair := range 1 << 16 {
		b := []byte{byte(pair >> 8), byte(pair)}
		agree(t, blank(0), b)
		agree(t, blank(1), append(b, 2, 2, 2, 2, 2, 2, 1, 2, 2))
	}
}

// Records of which some bytes are others, or gone, or more.
func TestReadGrown(t *testing.T) {
	r := rand.New(rand.NewSource(180))
	for range 60000 {
		was := blank(r.Intn(3))
		if r.Intn(2) == 0 {
			was = grown(r, r.Intn(3))
		}
		b := record(was, changed(r, was))
		for range r.Intn(4) {
			place := r.Intn(len(b))
			switch r.Intn(4) {
			case 0:
				b[place] = byte(r.Intn(256))
			case 1:
				b[place] ^= 1 << r.Intn(8)
			case 2:
				b = slices.Insert(b, place, byte(r.Intn(256)), byte(r.Intn(3)))
			default:
				b = append(slices.Delete(b, place, place+1), byte(r.Intn(4)))
			}
		}
		agree(t, was, b)
	}
}

// The model of which states may be a base is that of the layer.
func TestBases(t *testing.T) {
	for _, s := range noBases() {
		if base(s) {
			t.Errorf("%v is a base", s)
		}
	}
	r := rand.New(rand.NewSource(1818))
	for groups := range 100 {
		for _, s := range []event.State{blank(groups), sample(groups), grown(r, groups)} {
			now := own(s)
			now.Kind = 3
			if !base(s) {
				t.Errorf("%v is no base", s)
			}
			is(t, s, now, "\x03\x00")
		}
	}
}

// Memory.

// roomy is a state whose Caps have spare room that is filled.
func roomy(s event.State) event.State {
	caps := append(slices.Clone(s.Caps), 77, 78, 79)
	s.Caps = caps[:len(s.Caps)]
	return s
}

// spare is what stands behind a list, up to its capacity.
func spare[T any](l []T) []T { return l[len(l):cap(l)] }

// fill lets all of a list be a number, its spare room too.
func fill[T any](l []T, x T) {
	for i := range l[:cap(l)] {
		l[:cap(l)][i] = x
	}
}

func TestBytesMemory(t *testing.T) {
	was, now := roomy(sample(2)), roomy(sample(2))
	now.Caps[1], now.Node, now.Pos = 8, 9, 10
	wantWas, wantNow := own(was), own(now)
	a, _ := delta.Bytes(was, now)
	b, _ := delta.Bytes(was, now)
	want := record(wantWas, wantNow)
	for _, s := range []event.State{was, now} {
		if x := spare(s.Caps); x[0] != 77 || x[1] != 78 || x[2] != 79 {
			t.Errorf("the spare room is %v", x)
		}
	}
	if !alike(was, wantWas) || !alike(now, wantNow) {
		t.Errorf("what was handed in is %v, %v", was, now)
	}
	fill(a, 0xee)
	if !bytes.Equal(b, want) {
		t.Errorf("%x; want %x", b, want)
	}
	if c, _ := delta.Bytes(was, now); !bytes.Equal(c, want) {
		t.Errorf("%x; want %x", c, want)
	}
	// Bytes of nothing but a Kind and a sum have memory of their own, too.
	a, _ = delta.Bytes(was, was)
	fill(a, 0xee)
	if c, _ := delta.Bytes(was, was); string(c) != "\x07\x00" {
		t.Errorf("%x", c)
	}
}

func TestReadMemory(t *testing.T) {
	for _, bytesOf := range []string{"\x02\x41\x02\x01\x01\x04", "\x02\x00", "\x02\x04\x02"} {
		was := roomy(sample(2))
		all := append([]byte(bytesOf), 0x55, 0x66)
		b := all[:len(bytesOf)]
		wantWas := own(was)
		x, _, e := delta.Read(was, b, 0)
		y, _, _ := delta.Read(was, b, 0)
		if e != api.OK {
			t.Fatal(e)
		}
		want := own(y)
		fill(x.Caps, 999)
		if !alike(was, wantWas) || spare(was.Caps)[0] != 77 || spare(was.Caps)[2] != 79 {
			t.Errorf("the base is %v, and %v behind", was, spare(was.Caps))
		}
		if string(all) != bytesOf+"\x55\x66" {
			t.Errorf("the bytes are %x", all)
		}
		if !alike(y, want) {
			t.Errorf("%v; want %v", y, want)
		}
		fill(was.Caps, 5)
		fill(b, 5)
		if !alike(y, want) {
			t.Errorf("%v; want %v", y, want)
		}
	}
}

// A base isn't changed by bytes that are refused halfway either.
func TestReadRefusedChangesNothing(t *testing.T) {
	was := sample(2)
	for _, b := range []string{"\x02\x7f\x02\x02\x02\x02\x02\x02\x02\x00\x02", "\x02\x40\x02\x00\x02\x00\x00", "\x00\x40\x01\x00\x02", "\x02\x40\x01\x00\xff\xff\xff\xff\x0f"} {
		all := []byte(b)
		if _, _, e := delta.Read(was, all, 0); e == api.OK {
			t.Errorf("%x is read", b)
		}
		if !alike(was, sample(2)) || string(all) != b {
			t.Errorf("%v, %x", was, all)
		}
	}
}
