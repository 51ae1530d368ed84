package vint_test

import (
	"bytes"
	"encoding/binary"
	"math"
	"math/big"
	"slices"
	"strings"
	"testing"

	"clew/api"
	"clew/vint"
)

// numbers are those at which what a number's bytes are changes, those beside them, and some between.
func numbers() []uint64 {
	l := []uint64{0, 300, 0x0123456789abcdef, 0xfedcba9876543210, 0x5555555555555555, 0xaaaaaaaaaaaaaaaa, math.MaxUint64 - 1, math.MaxUint64}
	for bit := range 64 {
		one := uint64(1) << bit
		l = append(l, one-1, one, one+1, one|one>>1, one|1<<(bit/2), -one)
	}
	return l
}

// signs are numbers with a sign, beside each power of 2, and some between.
func signs() []int {
	l := []int{0, 300, -300, 12345678901234, -12345678901234, math.MinInt, math.MinInt + 1, math.MaxInt - 1, math.MaxInt}
	for bit := range 63 {
		one := 1 << bit
		l = append(l, one-1, one, one+1, -one+1, -one, -one-1)
	}
	return l
}

// modelBytes is the chapter's rule digit by digit: a number in the base 128, its lowest digits first.
func modelBytes(n uint64) []byte {
	var b []byte
	for ; n > 127; n /= 128 {
		b = append(b, byte(n%128+128))
	}
	return append(b, byte(n))
}

// isNumber tells whether bytes are just a number's.
func isNumber(b []byte) (uint64, bool) {
	n, many := binary.Uvarint(b)
	return n, many == len(b) && bytes.Equal(binary.AppendUvarint(nil, n), b)
}

// modelGet is the chapter's rule prefix by prefix: a prefix is a number, can become one by a further byte or by more, or is wrong.
func modelGet(b []byte) (uint64, int, api.Errno) {
	for i := range b {
		ahead := b[:i+1]
		if n, ok := isNumber(ahead); ok {
			return n, i + 1, api.OK
		}
		// Nine bytes have 63 bits, so whatever can become a number becomes one by a 1.
		if _, ok := isNumber(append(slices.Clone(ahead), 1)); !ok {
			return 0, 0, api.ErrForm
		}
	}
	return 0, 0, api.ErrShort
}

// wrong are bytes that begin no number, and why.
func wrong() []struct {
	b    string
	want api.Errno
} {
	nine, zeros := strings.Repeat("\xff", 9), strings.Repeat("\x80", 9)
	return []struct {
		b    string
		want api.Errno
	}{
		// They end ahead of a last byte.
		{"", api.ErrShort},
		{"\x80", api.ErrShort},
		{"\xff", api.ErrShort},
		{"\x81\x80", api.ErrShort},
		{"\xff\xff\xff\xff", api.ErrShort},
		{nine[:8], api.ErrShort},
		{nine, api.ErrShort},
		{zeros, api.ErrShort},
		// A last one of 0, of each length.
		{"\x80\x00", api.ErrForm},
		{"\xff\x00", api.ErrForm},
		{"\x81\x80\x00", api.ErrForm},
		{nine[:8] + "\x00", api.ErrForm},
		{nine + "\x00", api.ErrForm},
		{zeros + "\x00", api.ErrForm},
		// What is behind the wrong byte has no part in it.
		{"\x80\x00\x01", api.ErrForm},
		{"\x80\x00\x80", api.ErrForm},
		// Bits beyond the greatest number.
		{nine + "\x02", api.ErrForm},
		{nine + "\x03", api.ErrForm},
		{nine + "\x40", api.ErrForm},
		{nine + "\x7f", api.ErrForm},
		{zeros + "\x02", api.ErrForm},
		// An eleventh byte is needed, be it there or not.
		{nine + "\x81", api.ErrForm},
		{nine + "\x80", api.ErrForm},
		{nine + "\x82", api.ErrForm},
		{nine + "\xff", api.ErrForm},
		{zeros + "\x80", api.ErrForm},
		{zeros + "\x81", api.ErrForm},
		{zeros + "\x80\x00", api.ErrForm},
		{zeros + "\x80\x01", api.ErrForm},
		{nine + "\xff\x7f", api.ErrForm},
		{nine + nine + nine, api.ErrForm},
	}
}

// P4.1

func TestBytes(t *testing.T) {
	for _, x := range []struct {
		n    uint64
		want string
	}{
		// The chapter's example.
		{300, "\xac\x02"},
		// The number whose last byte is 0.
		{0, "\x00"},
		// The least and the greatest of each length.
		{1, "\x01"},
		{1<<7 - 1, "\x7f"},
		{1 << 7, "\x80\x01"},
		{1<<14 - 1, "\xff\x7f"},
		{1 << 14, "\x80\x80\x01"},
		{1<<21 - 1, "\xff\xff\x7f"},
		{1 << 21, "\x80\x80\x80\x01"},
		{1<<28 - 1, "\xff\xff\xff\x7f"},
		{1 << 28, "\x80\x80\x80\x80\x01"},
		{1<<35 - 1, "\xff\xff\xff\xff\x7f"},
		{1 << 35, "\x80\x80\x80\x80\x80\x01"},
		{1<<42 - 1, "\xff\xff\xff\xff\xff\x7f"},
		{1 << 42, "\x80\x80\x80\x80\x80\x80\x01"},
		{1<<49 - 1, "\xff\xff\xff\xff\xff\xff\x7f"},
		{1 << 49, "\x80\x80\x80\x80\x80\x80\x80\x01"},
		{1<<56 - 1, "\xff\xff\xff\xff\xff\xff\xff\x7f"},
		{1 << 56, "\x80\x80\x80\x80\x80\x80\x80\x80\x01"},
		{1<<63 - 1, "\xff\xff\xff\xff\xff\xff\xff\xff\x7f"},
		{1 << 63, "\x80\x80\x80\x80\x80\x80\x80\x80\x80\x01"},
		{1<<64 - 1, "\xff\xff\xff\xff\xff\xff\xff\xff\xff\x01"},
		// Bytes of 0 between, and those whose seven bits are told apart.
		{1<<14 | 1, "\x81\x80\x01"},
		{1 | 2<<7 | 3<<14 | 4<<21, "\x81\x82\x83\x04"},
		{1<<63 | 1, "\x81\x80\x80\x80\x80\x80\x80\x80\x80\x01"},
	} {
		if b := vint.Bytes(x.n); string(b) != x.want {
			t.Errorf("Bytes(%x) = %x, want %x", x.n, b, x.want)
		}
		if n, many, err := vint.Get([]byte(x.want), 0); n != x.n || many != len(x.want) || err != api.OK {
			t.Errorf("Get(%x) = %x, %d, %d, want %x", x.want, n, many, err, x.n)
		}
	}
}

// Bytes go by the chapter's rule, and are read again, alone and between others.
func TestBytesAndGet(t *testing.T) {
	l := numbers()
	for n := range uint64(1 << 17) {
		l = append(l, n)
	}
	for _, n := range l {
		b := vint.Bytes(n)
		if want := modelBytes(n); !bytes.Equal(b, want) {
			t.Fatalf("Bytes(%x) = %x, want %x", n, b, want)
		}
		for _, ahead := range []string{"", "\x00", "\x80", "abc", "\xff\xff\xff\xff\xff\xff\xff\xff\xff\xff\xff"} {
			for _, behind := range []string{"", "\x00", "\x01", "\x80", "\xff\xff"} {
				all := slices.Concat([]byte(ahead), b, []byte(behind))
				if m, many, err := vint.Get(all, len(ahead)); m != n || many != len(b) || err != api.OK {
					t.Fatalf("Get(%x, %d) = %x, %d, %d, want %x", all, len(ahead), m, many, err, n)
				}
			}
		}
	}
}

// Numbers one behind the other are found by how many bytes each has.
func TestGetOneBehindTheOther(t *testing.T) {
	var all []byte
	for _, n := range numbers() {
		all = append(all, vint.Bytes(n)...)
	}
	at := 0
	for _, n := range numbers() {
		m, many, err := vint.Get(all, at)
		if m != n || err != api.OK {
			t.Fatalf("Get at %d = %x, %d, %d, want %x", at, m, many, err, n)
		}
		at += many
	}
	if n, many, err := vint.Get(all, at); n != 0 || many != 0 || err != api.ErrShort {
		t.Errorf("Get at the end = %x, %d, %d", n, many, err)
	}
}

func TestGetWrong(t *testing.T) {
	for _, x := range wrong() {
		for _, ahead := range []string{"", "\x05", "\x80"} {
			all, at := []byte(ahead+x.b), len(ahead)
			if n, many, err := vint.Get(all, at); n != 0 || many != 0 || err != x.want {
				t.Errorf("Get(%x, %d) = %x, %d, %d, want %d", all, at, n, many, err, x.want)
			}
			if n, many, err := vint.GetSigned(all, at); n != 0 || many != 0 || err != x.want {
				t.Errorf("GetSigned(%x, %d) = %d, %d, %d, want %d", all, at, n, many, err, x.want)
			}
		}
	}
}

func TestGetOutOfRange(t *testing.T) {
	for _, x := range []struct {
		b  string
		at int
	}{
		{"", -1}, {"", 1}, {"", 2}, {"", math.MinInt}, {"", math.MaxInt},
		{"\x01\x02", -1}, {"\x01\x02", -2}, {"\x01\x02", 3}, {"\x01\x02", 1 << 32}, {"\x01\x02", -1 << 32},
		{"\x01\x02", math.MinInt}, {"\x01\x02", math.MinInt + 1}, {"\x01\x02", math.MaxInt - 1}, {"\x01\x02", math.MaxInt},
		{"\x80", 2}, {"\x80\x00", -1},
	} {
		if n, many, err := vint.Get([]byte(x.b), x.at); n != 0 || many != 0 || err != api.ErrRange {
			t.Errorf("Get(%x, %d) = %x, %d, %d", x.b, x.at, n, many, err)
		}
		if n, many, err := vint.GetSigned([]byte(x.b), x.at); n != 0 || many != 0 || err != api.ErrRange {
			t.Errorf("GetSigned(%x, %d) = %d, %d, %d", x.b, x.at, n, many, err)
		}
	}
}

// The end is a place at which nothing stands.
func TestGetAtTheEnd(t *testing.T) {
	for _, b := range [][]byte{nil, {}, {1}, {1, 2}, {0x80}} {
		if n, many, err := vint.Get(b, len(b)); n != 0 || many != 0 || err != api.ErrShort {
			t.Errorf("Get(%x, %d) = %x, %d, %d", b, len(b), n, many, err)
		}
		if n, many, err := vint.GetSigned(b, len(b)); n != 0 || many != 0 || err != api.ErrShort {
			t.Errorf("GetSigned(%x, %d) = %d, %d, %d", b, len(b), n, many, err)
		}
	}
}

// What is behind the list's end, in its spare room, isn't read.
func TestSpareRoomIsNotRead(t *testing.T) {
	for _, n := range numbers() {
		all := vint.Bytes(n)
		for size := range all {
			if m, many, err := vint.Get(all[:size], 0); m != 0 || many != 0 || err != api.ErrShort {
				t.Errorf("Get(%x) = %x, %d, %d", all[:size], m, many, err)
			}
		}
	}
}

// checkGet holds Get and GetSigned against the rule.
func checkGet(t *testing.T, b []byte) {
	t.Helper()
	want, size, fault := modelGet(b)
	if n, many, err := vint.Get(b, 0); n != want || many != size || err != fault {
		t.Fatalf("Get(%x) = %x, %d, %d, want %x, %d, %d", b, n, many, err, want, size, fault)
	}
	if n, many, err := vint.GetSigned(b, 0); n != vint.Zag(want) || many != size || err != fault {
		t.Fatalf("GetSigned(%x) = %d, %d, %d, want %d, %d, %d", b, n, many, err, vint.Zag(want), size, fault)
	}
}

// All bytes go by the rule, behind any number of those that go on.
func TestGetAllBytes(t *testing.T) {
	few := []byte{0, 1, 2, 0x3f, 0x40, 0x7f, 0x80, 0x81, 0x82, 0xc0, 0xff}
	for ahead := range 12 {
		for _, x := range []byte{0x80, 0x81, 0xc0, 0xff} {
			begin := bytes.Repeat([]byte{x}, ahead)
			checkGet(t, begin)
			for y := range 256 {
				checkGet(t, append(slices.Clone(begin), byte(y)))
				for _, z := range few {
					checkGet(t, append(slices.Clone(begin), byte(y), z))
				}
			}
		}
	}
}

// All bytes of up to five of some kinds go by the rule.
func TestGetFewBytes(t *testing.T) {
	var each func(b []byte)
	each = func(b []byte) {
		checkGet(t, b)
		if len(b) == 5 {
			return
		}
		for _, x := range []byte{0, 1, 0x7f, 0x80, 0x81, 0xff} {
			each(append(slices.Clone(b), x))
		}
	}
	each(nil)
}

// P4.2

func TestZig(t *testing.T) {
	for _, x := range []struct {
		n    int
		want uint64
	}{
		{0, 0}, {-1, 1}, {1, 2}, {-2, 3}, {2, 4}, {-3, 5}, {3, 6},
		{63, 126}, {-64, 127}, {64, 128}, {-65, 129},
		{math.MaxInt32, 1<<32 - 2}, {math.MinInt32, 1<<32 - 1}, {1 << 31, 1 << 32}, {-1<<31 - 1, 1<<32 + 1},
		{1<<62 - 1, 1<<63 - 2}, {-1 << 62, 1<<63 - 1}, {1 << 62, 1 << 63}, {-1<<62 - 1, 1<<63 + 1},
		{math.MaxInt - 1, 1<<64 - 4}, {math.MinInt + 1, 1<<64 - 3}, {math.MaxInt, 1<<64 - 2}, {math.MinInt, 1<<64 - 1},
	} {
		if u := vint.Zig(x.n); u != x.want {
			t.Errorf("Zig(%d) = %x, want %x", x.n, u, x.want)
		}
		if n := vint.Zag(x.want); n != x.n {
			t.Errorf("Zag(%x) = %d, want %d", x.want, n, x.n)
		}
	}
}

// modelZig is the chapter's rule by numbers without a bound.
func modelZig(n int) uint64 {
	x := big.NewInt(int64(n))
	if n < 0 {
		x.Mul(x, big.NewInt(-2))
		x.Sub(x, big.NewInt(1))
	} else {
		x.Mul(x, big.NewInt(2))
	}
	return x.Uint64()
}

// Numbers go by the chapter's rule, and back; no two have one number.
func TestZigAndZag(t *testing.T) {
	l := signs()
	for n := -1 << 12; n <= 1<<12; n++ {
		l = append(l, n)
	}
	for _, n := range l {
		want := modelZig(n)
		if u := vint.Zig(n); u != want {
			t.Errorf("Zig(%d) = %x, want %x", n, u, want)
		}
		if m := vint.Zag(want); m != n {
			t.Errorf("Zag(%x) = %d, want %d", want, m, n)
		}
	}
	for _, u := range numbers() {
		if v := vint.Zig(vint.Zag(u)); v != u {
			t.Errorf("Zig(Zag(%x)) = %x", u, v)
		}
	}
}

func TestSigned(t *testing.T) {
	for _, x := range []struct {
		n    int
		want string
	}{
		// The chapter's example.
		{-1, "\x01"},
		{0, "\x00"}, {1, "\x02"}, {-2, "\x03"},
		{63, "\x7e"}, {-64, "\x7f"}, {64, "\x80\x01"}, {-65, "\x81\x01"}, {150, "\xac\x02"},
		{1<<13 - 1, "\xfe\x7f"}, {-1 << 13, "\xff\x7f"}, {1 << 13, "\x80\x80\x01"},
		{1<<62 - 1, "\xfe\xff\xff\xff\xff\xff\xff\xff\x7f"}, {-1 << 62, "\xff\xff\xff\xff\xff\xff\xff\xff\x7f"},
		{1 << 62, "\x80\x80\x80\x80\x80\x80\x80\x80\x80\x01"},
		{math.MaxInt, "\xfe\xff\xff\xff\xff\xff\xff\xff\xff\x01"}, {math.MinInt, "\xff\xff\xff\xff\xff\xff\xff\xff\xff\x01"},
	} {
		if b := vint.Signed(x.n); string(b) != x.want {
			t.Errorf("Signed(%d) = %x, want %x", x.n, b, x.want)
		}
		if n, many, err := vint.GetSigned([]byte("\x80"+x.want+"\x80"), 1); n != x.n || many != len(x.want) || err != api.OK {
			t.Errorf("GetSigned(%x) = %d, %d, %d, want %d", x.want, n, many, err, x.n)
		}
	}
}

func TestSignedAndGetSigned(t *testing.T) {
	for _, n := range signs() {
		b := vint.Signed(n)
		if want := modelBytes(modelZig(n)); !bytes.Equal(b, want) {
			t.Errorf("Signed(%d) = %x, want %x", n, b, want)
		}
		if m, many, err := vint.GetSigned(b, 0); m != n || many != len(b) || err != api.OK {
			t.Errorf("GetSigned(%x) = %d, %d, %d, want %d", b, m, many, err, n)
		}
	}
}

// P1 and the rule of memory: nothing that is handed in is changed, and nothing that is told is shared.

func TestArgumentsStay(t *testing.T) {
	for _, b := range []string{"", "\x00", "\x7f", "\xac\x02", "\x80\x00", "\x80", "\xff\xff\xff\xff\xff\xff\xff\xff\xff\x01", "\xff\xff\xff\xff\xff\xff\xff\xff\xff\x02"} {
		was := "\x05" + b + "\x85\x00spare"
		all := []byte(was)
		for at := -1; at <= len(b)+2; at++ {
			vint.Get(all[:len(b)+1], at)
			vint.GetSigned(all[:len(b)+1], at)
		}
		if string(all) != was {
			t.Errorf("%x became %x", was, all)
		}
	}
}

// checkNew holds that two answers share no memory, spare room too.
func checkNew(t *testing.T, first, second []byte) {
	t.Helper()
	want := string(second)
	first = first[:cap(first)]
	for i := range first {
		first[i] = 0x77
	}
	if string(second) != want {
		t.Errorf("%x: answers share memory", want)
	}
}

func TestAnswersAreNew(t *testing.T) {
	for _, n := range numbers() {
		checkNew(t, vint.Bytes(n), vint.Bytes(n))
		if b := vint.Bytes(n); !bytes.Equal(b, modelBytes(n)) {
			t.Errorf("Bytes(%x) = %x", n, b)
		}
	}
	for _, n := range signs() {
		checkNew(t, vint.Signed(n), vint.Signed(n))
		if b := vint.Signed(n); !bytes.Equal(b, modelBytes(modelZig(n))) {
			t.Errorf("Signed(%d) = %x", n, b)
		}
	}
}
