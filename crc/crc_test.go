package crc

import (
	"bytes"
	"hash/crc32"
	"math"
	"testing"
)

// counted answers n bytes from c on, each by step more than the one ahead.
func counted(n int, c, step byte) []byte {
	b := make([]byte, n)
	for i := range b {
		b[i] = c
		c += step
	}
	return b
}

// texts are of all lengths at the edges of a sum's and of a sector's.
func texts() [][]byte {
	l := [][]byte{nil, {}, []byte("a"), []byte("ab"), []byte("123456789")}
	for _, n := range []int{1, 2, 3, 4, 5, 7, 8, 9, 31, 32, 33, 220, 252, 256} {
		l = append(l, counted(n, 0, 0), counted(n, 255, 0), counted(n, 3, 37))
	}
	return l
}

// chances answers a function that tells one number after another, the same ones each time.
func chances() func() uint32 {
	x := uint64(1)
	return func() uint32 {
		x = x*6364136223846793005 + 1442695040888963407
		return uint32(x >> 32)
	}
}

// P2.1

func TestNext(t *testing.T) {
	for _, c := range []struct {
		x    uint32
		c    byte
		want uint32
	}{
		{0, 0, 0},
		{1, 1, 0},
		{255, 255, 0},
		{0, 128, 0x82F63B78},
		{128, 0, 0x82F63B78},
		{0, 64, 0x417B1DBC},
		{0, 1, 0xF26B8303},
		{1, 0, 0xF26B8303},
		{256, 0, 1},
		{0x12345600, 0, 0x123456},
		{1 << 31, 0, 1 << 23},
		{math.MaxUint32, 255, 0xFFFFFF},
		{math.MaxUint32, 0, 0xAD82ACAE},
	} {
		if got := Next(c.x, c.c); got != c.want {
			t.Errorf("Next(%x, %x) = %x, not %x", c.x, c.c, got, c.want)
		}
	}
}

// TestNextOfAll: each byte is taken in as the library's table of the polynomial has it.
func TestNextOfAll(t *testing.T) {
	table, next := crc32.MakeTable(crc32.Castagnoli), chances()
	for i := range 256 {
		for range 64 {
			x, c := next(), byte(i)
			if got, want := Next(x, c), x>>8^table[byte(x)^c]; got != want {
				t.Fatalf("Next(%x, %x) = %x, not %x", x, c, got, want)
			}
		}
	}
}

func TestOf(t *testing.T) {
	for _, c := range []struct {
		b    []byte
		want uint32
	}{
		{nil, 0},
		{[]byte{}, 0},
		{[]byte{0}, 0x527D5351},
		{[]byte{255}, 0xFF000000},
		{[]byte("a"), 0xC1D04330},
		{[]byte("123456789"), 0xE3069283},
		{counted(32, 0, 0), 0x8A9136AA},
		{counted(32, 255, 0), 0x62A8AB43},
		{counted(32, 0, 1), 0x46DD794E},
		{counted(32, 31, 255), 0x113FDB5C},
	} {
		if got := Of(c.b); got != c.want {
			t.Errorf("Of(%x) = %x, not %x", c.b, got, c.want)
		}
	}
}

// TestOfGoesOn: a sum is Next of each byte, from all ones on, turned; and what the library says.
func TestOfGoesOn(t *testing.T) {
	for _, b := range append(texts(), counted(1<<16, 7, 91)) {
		x := uint32(math.MaxUint32)
		for _, c := range b {
			x = Next(x, c)
		}
		if got := Of(b); got != math.MaxUint32-x {
			t.Errorf("Of %d bytes: %x, not %x", len(b), got, math.MaxUint32-x)
		}
		if got, want := Of(b), crc32.Checksum(b, crc32.MakeTable(crc32.Castagnoli)); got != want {
			t.Errorf("Of %d bytes: %x, not %x", len(b), got, want)
		}
	}
}

// P2.2

func TestClosed(t *testing.T) {
	for _, c := range []struct{ b, want []byte }{
		{nil, []byte{0, 0, 0, 0}},
		{[]byte{}, []byte{0, 0, 0, 0}},
		{[]byte{255}, []byte{255, 0, 0, 0, 255}},
		{[]byte("a"), []byte{'a', 0x30, 0x43, 0xD0, 0xC1}},
		{[]byte("123456789"), []byte("123456789\x83\x92\x06\xE3")},
	} {
		if got := Closed(c.b); !bytes.Equal(got, c.want) {
			t.Errorf("Closed(%x) = %x, not %x", c.b, got, c.want)
		}
	}
}

func TestHolds(t *testing.T) {
	for _, b := range texts() {
		c := Closed(b)
		if len(c) != len(b)+4 || !bytes.Equal(c[:len(b)], b) || !Holds(c) {
			t.Errorf("Closed(%x) = %x: %v", b, c, Holds(c))
		}
		if d := Closed(c); !Holds(d) {
			t.Errorf("closed twice: %x", d)
		}
	}
}

func TestHoldsRefuses(t *testing.T) {
	for _, b := range [][]byte{
		nil, {}, {0}, {0, 0}, {0, 0, 0}, {255}, {255, 255, 255}, {0xC1, 0xD0, 0x43},
		{0, 0, 0, 1}, {1, 0, 0, 0}, {255, 255, 255, 255}, {0, 0, 0, 0, 0}, {0, 0, 0, 0, 0, 0},
		[]byte("a"), []byte("123456789"), []byte("123456789\xE3\x06\x92\x83"), []byte("\x83\x92\x06\xE3123456789"),
		[]byte("123456789\x7C\x6D\xF9\x1C"),
	} {
		if Holds(b) {
			t.Errorf("%x holds", b)
		}
	}
	for _, b := range texts() {
		c := Closed(b)
		for n := range c {
			if want := n >= 4 && bytes.Equal(Closed(c[:max(n-4, 0)]), c[:n]); Holds(c[:n]) != want {
				t.Errorf("%x, cut to %d: not %v", c, n, want)
			}
		}
		if c = append(c, 0); Holds(c) {
			t.Errorf("%x holds, a nought behind it", c)
		}
	}
}

// TestHoldsOfSomething: what is Closed of another text holds, wherever it comes from: the polynomial's own 33 bits turn one such into another.
func TestHoldsOfSomething(t *testing.T) {
	for _, b := range texts() {
		c := Closed(b)
		for at := 0; at+33 <= 8*len(c); at++ {
			d := turned(c, at, 1|0x82F63B78<<1)
			if !Holds(d) || !bytes.Equal(Closed(d[:len(b)]), d) {
				t.Fatalf("%x, with the polynomial at %d: %x does not hold", c, at, d)
			}
		}
	}
}

// P2.3

// turned answers bytes with the bits of a pattern turned, the lowest at the place at, those behind the end left out.
func turned(b []byte, at int, pattern uint64) []byte {
	d := bytes.Clone(b)
	for ; pattern != 0 && at < 8*len(d); at++ {
		d[at/8] ^= byte(pattern&1) << (at % 8)
		pattern >>= 1
	}
	return d
}

// patterns are bits within 32: one alone, all of them, the outermost two, each other, and what chance has.
func patterns() []uint64 {
	next := chances()
	l := []uint64{1, 3, 1<<31 | 1, 1<<32 - 1, 1<<32 - 2, 0x55555555, 0xAAAAAAAA, 0x82F63B78, 0x82F63B78 | 1, 0xFF, 0xFFFF, 1<<24 - 1}
	for range 20 {
		l = append(l, uint64(next()|1))
	}
	return l
}

func TestTurnedDoesNotHold(t *testing.T) {
	for _, b := range texts() {
		c := Closed(b)
		for at := range 8 * len(c) {
			for _, p := range patterns() {
				if d := turned(c, at, p); !bytes.Equal(d, c) && Holds(d) {
					t.Fatalf("%x, with %x turned from bit %d on: %x holds", c, p, at, d)
				}
			}
		}
	}
}

// TestTurnedWindow: of the first 32 bits, and of the last, each one, each two, and all that sixteen side by side may be turned to.
func TestTurnedWindow(t *testing.T) {
	c := Closed([]byte("turned"))
	for _, at := range []int{0, 8*len(c) - 32} {
		for i := range 32 {
			for j := range 32 {
				if Holds(turned(c, at, 1<<i|1<<j)) {
					t.Errorf("bits %d and %d from %d on", i, j, at)
				}
			}
		}
		for p := uint64(1); p < 1<<16; p++ {
			if Holds(turned(c, at, p)) || Holds(turned(c, at, p<<16)) {
				t.Errorf("%x from %d on", p, at)
			}
		}
	}
}

// R3: what is handed in is not changed, answers are new memory, and what stands behind a list's end is nobody's.
func TestNothingShared(t *testing.T) {
	room := []byte("123456789 and more")
	b := room[:9]
	if Of(b) != 0xE3069283 {
		t.Error("what stands behind the end counts")
	}
	c := Closed(b)
	if !Holds(c) || string(room) != "123456789 and more" {
		t.Errorf("changed: %q", room)
	}
	if !Holds(append(c, "more"...)[:13]) {
		t.Error("what stands behind the end counts for Holds")
	}
	clear(c)
	if string(room) != "123456789 and more" || !Holds(Closed(b)) {
		t.Error("an answer shares memory")
	}
}
