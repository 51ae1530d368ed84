package sym

import (
	"bytes"
	"math"
	"slices"
	"testing"
	"unicode/utf8"

	"clew/api"
)

// cases are bytes, their symbols, and where those begin, the end too.
func cases() []struct {
	b      string
	all    []int
	starts []int
} {
	return []struct {
		b      string
		all    []int
		starts []int
	}{
		{"", nil, []int{0}},
		{"A", []int{0x41}, []int{0, 1}},
		{"\x00\x7f", []int{0, 0x7f}, []int{0, 1, 2}},
		// The chapter's example.
		{"\x41\xc3\xa9\xc3\xff", []int{0x41, 0xe9, 0x1100c3, 0x1100ff}, []int{0, 1, 3, 4, 5}},
		// The least and the greatest of each length.
		{"\xc2\x80\xdf\xbf", []int{0x80, 0x7ff}, []int{0, 2, 4}},
		{"\xe0\xa0\x80\xef\xbf\xbf", []int{0x800, 0xffff}, []int{0, 3, 6}},
		{"\xf0\x90\x80\x80\xf4\x8f\xbf\xbf", []int{0x10000, 0x10ffff}, []int{0, 4, 8}},
		// On both sides of what isn't a scalar value.
		{"\xed\x9f\xbf\xee\x80\x80", []int{0xd7ff, 0xe000}, []int{0, 3, 6}},
		{"\xed\xa0\x80", []int{0x1100ed, 0x1100a0, 0x110080}, []int{0, 1, 2, 3}},
		{"\xed\xbf\xbf", []int{0x1100ed, 0x1100bf, 0x1100bf}, []int{0, 1, 2, 3}},
		// The replacement character is a symbol as others are.
		{"\xef\xbf\xbd", []int{0xfffd}, []int{0, 3}},
		// Longer than need be.
		{"\xc0\xaf", []int{0x1100c0, 0x1100af}, []int{0, 1, 2}},
		{"\xc1\xbf", []int{0x1100c1, 0x1100bf}, []int{0, 1, 2}},
		{"\xe0\x9f\xbf", []int{0x1100e0, 0x11009f, 0x1100bf}, []int{0, 1, 2, 3}},
		{"\xf0\x8f\xbf\xbf", []int{0x1100f0, 0x11008f, 0x1100bf, 0x1100bf}, []int{0, 1, 2, 3, 4}},
		// Past the greatest.
		{"\xf4\x90\x80\x80", []int{0x1100f4, 0x110090, 0x110080, 0x110080}, []int{0, 1, 2, 3, 4}},
		{"\xf5\xfe\xff", []int{0x1100f5, 0x1100fe, 0x1100ff}, []int{0, 1, 2, 3}},
		// Cut off at the end, and by another symbol.
		{"\xc3", []int{0x1100c3}, []int{0, 1}},
		{"\xe2\x82", []int{0x1100e2, 0x110082}, []int{0, 1, 2}},
		{"\xf0\x9f\x98", []int{0x1100f0, 0x11009f, 0x110098}, []int{0, 1, 2, 3}},
		{"\xe2\x82\xc3\xa9", []int{0x1100e2, 0x110082, 0xe9}, []int{0, 1, 2, 4}},
		{"\xe2a", []int{0x1100e2, 0x61}, []int{0, 1, 2}},
		// Begun by what can't begin.
		{"\x80\xbfa", []int{0x110080, 0x1100bf, 0x61}, []int{0, 1, 2, 3}},
	}
}

// P1.1

func TestAllAndStarts(t *testing.T) {
	for _, x := range cases() {
		if l := All([]byte(x.b)); !slices.Equal(l, x.all) {
			t.Errorf("All(%x) = %x, want %x", x.b, l, x.all)
		}
		if l := Starts([]byte(x.b)); !slices.Equal(l, x.starts) {
			t.Errorf("Starts(%x) = %d, want %d", x.b, l, x.starts)
		}
	}
	if l := All(nil); len(l) != 0 {
		t.Errorf("All(nil) = %x", l)
	}
	if l := Starts(nil); !slices.Equal(l, []int{0}) {
		t.Errorf("Starts(nil) = %d", l)
	}
}

func TestAtEachStart(t *testing.T) {
	for _, x := range cases() {
		for i, want := range x.all {
			at, size := x.starts[i], x.starts[i+1]-x.starts[i]
			if y, n := At([]byte(x.b), at); y != want || n != size {
				t.Errorf("At(%x, %d) = %x, %d, want %x, %d", x.b, at, y, n, want, size)
			}
		}
	}
}

func TestAtWithinSymbol(t *testing.T) {
	b := []byte("\xe2\x82\xac!")
	for at, want := range []int{0x20ac, 0x110082, 0x1100ac, '!'} {
		size := 1
		if at == 0 {
			size = 3
		}
		if x, n := At(b, at); x != want || n != size {
			t.Errorf("At(%d) = %x, %d, want %x, %d", at, x, n, want, size)
		}
	}
}

func TestAtOutside(t *testing.T) {
	for _, b := range [][]byte{nil, {}, []byte("a"), []byte("a\xc3\xa9")} {
		for _, at := range []int{math.MinInt, -1, len(b), len(b) + 1, math.MaxInt} {
			if x, n := At(b, at); x != 0 || n != 0 {
				t.Errorf("At(%x, %d) = %x, %d", b, at, x, n)
			}
		}
	}
}

// Room behind the bytes is no part of them.
func TestAtSpareRoom(t *testing.T) {
	b := []byte("\xc3\xa9")[:1]
	if x, n := At(b, 0); x != 0x1100c3 || n != 1 {
		t.Errorf("At = %x, %d", x, n)
	}
	if x, n := At(b, 1); x != 0 || n != 0 {
		t.Errorf("At behind the end = %x, %d", x, n)
	}
}

func TestEach(t *testing.T) {
	for _, x := range cases() {
		var starts, all []int
		for at, y := range Each([]byte(x.b)) {
			starts, all = append(starts, at), append(all, y)
		}
		if !slices.Equal(all, x.all) || !slices.Equal(starts, x.starts[:len(x.all)]) {
			t.Errorf("Each(%x) = %d, %x", x.b, starts, all)
		}
	}
	for at, x := range Each(nil) {
		t.Errorf("Each(nil) came to %d, %x", at, x)
	}
}

func TestEachAsFarAsAsked(t *testing.T) {
	seq := Each([]byte("a\xc3\xa9b\xff"))
	want := []int{'a', 0xe9, 'b', 0x1100ff}
	for stop := 1; stop <= len(want); stop++ {
		var got []int
		seq(func(_, x int) bool {
			got = append(got, x)
			return len(got) < stop
		})
		if !slices.Equal(got, want[:stop]) {
			t.Errorf("asked for %d: %x", stop, got)
		}
	}
}

// Each keeps nothing of what it was handed.
func TestEachKeepsNothing(t *testing.T) {
	b := []byte("a\xc3\xa9")
	seq := Each(b)
	clear(b)
	var got []int
	for _, x := range seq {
		got = append(got, x)
	}
	if !slices.Equal(got, []int{'a', 0xe9}) {
		t.Errorf("%x", got)
	}
}

// P1.2

func TestIs(t *testing.T) {
	for _, x := range []struct{ from, to int }{{0, 0xd7ff}, {0xe000, 0x10ffff}, {0x110080, 0x1100ff}} {
		for y := x.from; y <= x.to; y++ {
			if !Is(y) {
				t.Fatalf("%x is a symbol", y)
			}
		}
	}
	for _, x := range []struct{ from, to int }{{-0x1000, -1}, {0xd800, 0xdfff}, {0x110000, 0x11007f}, {0x110100, 0x111000}} {
		for y := x.from; y <= x.to; y++ {
			if Is(y) {
				t.Fatalf("%x is no symbol", y)
			}
		}
	}
}

// wrong are numbers that are no symbols, some of which would be if they were cut to fewer bits.
func wrong() []int {
	return []int{
		math.MinInt, math.MinInt + 'a', -1, 0xd800, 0xdc00, 0xdfff, 0x110000, 0x110041, 0x11007f, 0x110100,
		1 << 31, 1<<32 + 'a', 1<<32 + 0x110080, -1<<32 + 'a', math.MaxInt,
	}
}

func TestIsWrong(t *testing.T) {
	for _, x := range wrong() {
		if Is(x) {
			t.Errorf("%x is no symbol", x)
		}
	}
}

func TestPut(t *testing.T) {
	for _, x := range []struct {
		x int
		b string
	}{
		{0, "\x00"}, {0x41, "A"}, {0x7f, "\x7f"}, {0x80, "\xc2\x80"}, {0xe9, "\xc3\xa9"}, {0x7ff, "\xdf\xbf"},
		{0x800, "\xe0\xa0\x80"}, {0xd7ff, "\xed\x9f\xbf"}, {0xe000, "\xee\x80\x80"}, {0xfffd, "\xef\xbf\xbd"},
		{0xffff, "\xef\xbf\xbf"}, {0x10000, "\xf0\x90\x80\x80"}, {0x10ffff, "\xf4\x8f\xbf\xbf"},
		{0x110080, "\x80"}, {0x1100c3, "\xc3"}, {0x1100ff, "\xff"},
	} {
		if b, e := Put(x.x); e != api.OK || string(b) != x.b {
			t.Errorf("Put(%x) = %x, %d, want %x", x.x, b, e, x.b)
		}
	}
}

func TestPutWrong(t *testing.T) {
	for _, x := range wrong() {
		if b, e := Put(x); e != api.ErrRange || len(b) != 0 {
			t.Errorf("Put(%x) = %x, %d", x, b, e)
		}
	}
}

// Each symbol's bytes are told as that symbol again.
func TestPutAndAt(t *testing.T) {
	for x := 0; x <= api.MaxSym; x++ {
		if !Is(x) {
			continue
		}
		b, e := Put(x)
		if y, n := At(b, 0); e != api.OK || y != x || n != len(b) {
			t.Fatalf("At(Put(%x)) = %x, %d", x, y, n)
		}
		if x <= utf8.MaxRune && string(b) != string(rune(x)) {
			t.Fatalf("Put(%x) = %x", x, b)
		}
	}
}

func TestBytesOfAll(t *testing.T) {
	for _, x := range cases() {
		if b, e := Bytes(All([]byte(x.b))); e != api.OK || string(b) != x.b {
			t.Errorf("Bytes(All(%x)) = %x, %d", x.b, b, e)
		}
	}
	if b, e := Bytes(nil); e != api.OK || len(b) != 0 {
		t.Errorf("Bytes(nil) = %x, %d", b, e)
	}
}

// Any four bytes from the edges of what each may be are told whole again.
func TestBytesOfAllEdges(t *testing.T) {
	edges := []byte{
		0x00, 0x41, 0x7f, 0x80, 0x8f, 0x90, 0x9f, 0xa0, 0xbf, 0xc0, 0xc2, 0xdf,
		0xe0, 0xe1, 0xed, 0xef, 0xf0, 0xf1, 0xf4, 0xf5, 0xff,
	}
	for _, p := range edges {
		for _, q := range edges {
			for _, r := range edges {
				for _, s := range edges {
					b := []byte{p, q, r, s}
					l := All(b)
					if c, e := Bytes(l); e != api.OK || !bytes.Equal(c, b) || len(Starts(b)) != len(l)+1 {
						t.Fatalf("Bytes(All(%x)) = %x, %d", b, c, e)
					}
				}
			}
		}
	}
}

// Symbols whose bytes together are another symbol's are written one behind the other all the same.
func TestBytesJoined(t *testing.T) {
	b, e := Bytes([]int{0x1100c3, 0x1100a9})
	if e != api.OK || string(b) != "\xc3\xa9" {
		t.Errorf("%x, %d", b, e)
	}
}

func TestBytesWrong(t *testing.T) {
	for _, x := range wrong() {
		for _, l := range [][]int{{x}, {x, 'a'}, {'a', x}, {'a', x, 'b'}} {
			if b, e := Bytes(l); e != api.ErrRange || len(b) != 0 {
				t.Errorf("Bytes(%x) = %x, %d", l, b, e)
			}
		}
	}
}

// P1 and the rule of memory: nothing that is handed in is changed, and nothing that is told is shared.
func TestMemory(t *testing.T) {
	b := []byte("a\xc3\xa9\xff")
	l, k := All(b), All(b)
	s, r := Starts(b), Starts(b)
	l[0], s[0] = -1, -1
	if k[0] != 'a' || r[0] != 0 || string(b) != "a\xc3\xa9\xff" {
		t.Errorf("%x, %d, %x", k, r, b)
	}
	p, _ := Put(0xe9)
	q, _ := Put(0xe9)
	p[0] = 0
	if q[0] != 0xc3 {
		t.Errorf("%x", q)
	}
	list := []int{'a', 0xe9}
	c, _ := Bytes(list)
	d, _ := Bytes(list)
	c[0] = 0
	if d[0] != 'a' || !slices.Equal(list, []int{'a', 0xe9}) {
		t.Errorf("%x, %x", d, list)
	}
}
