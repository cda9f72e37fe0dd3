package num

import (
	"bytes"
	"math"
	"strings"
	"testing"
)

const sample = uint64(0x0123456789ABCDEF)

// samples are numbers at the edges of bytes, and some between.
func samples() []uint64 {
	l := []uint64{0, 1, 127, 128, 255, 256, 258, 65535, 65536, sample, math.MaxInt64, math.MaxInt64 + 1, math.MaxUint64}
	for i, n := 0, uint64(1); i < 50; i++ {
		n = n*6364136223846793005 + 1442695040888963407
		l = append(l, n)
	}
	return l
}

// P1.1

func TestPut(t *testing.T) {
	for _, c := range []struct {
		n      uint64
		size   int
		le, be []byte
	}{
		{258, 2, []byte{2, 1}, []byte{1, 2}},
		{258, 1, []byte{2}, []byte{2}},
		{258, 4, []byte{2, 1, 0, 0}, []byte{0, 0, 1, 2}},
		{sample, 3, []byte{0xEF, 0xCD, 0xAB}, []byte{0xAB, 0xCD, 0xEF}},
		{sample, 7, []byte{0xEF, 0xCD, 0xAB, 0x89, 0x67, 0x45, 0x23}, []byte{0x23, 0x45, 0x67, 0x89, 0xAB, 0xCD, 0xEF}},
		{sample, 8, []byte{0xEF, 0xCD, 0xAB, 0x89, 0x67, 0x45, 0x23, 1}, []byte{1, 0x23, 0x45, 0x67, 0x89, 0xAB, 0xCD, 0xEF}},
		{math.MaxUint64, 2, []byte{255, 255}, []byte{255, 255}},
		{0, 3, []byte{0, 0, 0}, []byte{0, 0, 0}},
	} {
		if got := Le(c.n, c.size); !bytes.Equal(got, c.le) {
			t.Errorf("Le(%x, %d) = %x, not %x", c.n, c.size, got, c.le)
		}
		if got := Be(c.n, c.size); !bytes.Equal(got, c.be) {
			t.Errorf("Be(%x, %d) = %x, not %x", c.n, c.size, got, c.be)
		}
	}
}

func TestPutSizes(t *testing.T) {
	for _, size := range []int{0, -1, -8, math.MinInt} {
		if le, be := Le(sample, size), Be(sample, size); len(le) != 0 || len(be) != 0 {
			t.Errorf("size %d: %x, %x", size, le, be)
		}
	}
	for _, size := range []int{9, 16, 1 << 40, math.MaxInt} {
		if le, be := Le(sample, size), Be(sample, size); !bytes.Equal(le, Le(sample, 8)) || !bytes.Equal(be, Be(sample, 8)) {
			t.Errorf("size %d: %x, %x", size, le, be)
		}
	}
}

func TestGet(t *testing.T) {
	for _, c := range []struct {
		b      []byte
		le, be uint64
	}{
		{nil, 0, 0},
		{[]byte{}, 0, 0},
		{[]byte{7}, 7, 7},
		{[]byte{2, 1}, 258, 513},
		{[]byte{0, 0, 1}, 1 << 16, 1},
		{[]byte{1, 2, 3, 4, 5, 6, 7}, 0x07060504030201, 0x01020304050607},
		{[]byte{1, 2, 3, 4, 5, 6, 7, 8}, 0x0807060504030201, 0x0102030405060708},
		{[]byte{255, 255, 255, 255, 255, 255, 255, 255}, math.MaxUint64, math.MaxUint64},
		{[]byte{1, 2, 3, 4, 5, 6, 7, 8, 9}, 0x0807060504030201, 0x0102030405060708},
		{[]byte{1, 2, 3, 4, 5, 6, 7, 8, 255, 255, 255, 255}, 0x0807060504030201, 0x0102030405060708},
	} {
		if got := FromLe(c.b); got != c.le {
			t.Errorf("FromLe(%x) = %x, not %x", c.b, got, c.le)
		}
		if got := FromBe(c.b); got != c.be {
			t.Errorf("FromBe(%x) = %x, not %x", c.b, got, c.be)
		}
	}
}

// P1.2

func TestCheck(t *testing.T) {
	for _, c := range []struct {
		b    []byte
		want uint16
	}{
		{nil, 0xFFFF},
		{[]byte{}, 0xFFFF},
		{[]byte{0, 0}, 0xFFFF},
		{[]byte{0, 1, 0, 2}, 0xFFFC},
		{[]byte{1}, 0xFEFF},
		{[]byte{0, 1, 2}, 0xFDFE},
		{[]byte{0x12, 0x34}, 0xEDCB},
		{[]byte{255, 255}, 0},
		{[]byte{255, 255, 0, 1}, 0xFFFE},
		{[]byte{255, 255, 255, 255}, 0},
		{[]byte{128, 0, 128, 0}, 0xFFFE},
		{[]byte{0x45, 0, 0, 0x73, 0, 0, 0x40, 0, 0x40, 0x11, 0, 0, 0xC0, 0xA8, 0, 1, 0xC0, 0xA8, 0, 0xC7}, 0xB861},
	} {
		if got := Check(c.b); got != c.want {
			t.Errorf("Check(%x) = %x, not %x", c.b, got, c.want)
		}
	}
}

// TestCheckFolds: what is added again may itself go beyond sixteen bits, once and again.
func TestCheckFolds(t *testing.T) {
	// 65537 times FFFF is FFFFFFFF: one fold comes to 1FFFE, the next to FFFF.
	if got := Check(bytes.Repeat([]byte{255, 255}, 65537)); got != 0 {
		t.Errorf("65537 times FFFF: %x", got)
	}
	// FFFF twice and 1: 1FFFF, then 10000, then 1.
	if got := Check([]byte{255, 255, 255, 255, 0, 1}); got != 0xFFFE {
		t.Errorf("FFFF, FFFF, 1: %x", got)
	}
	// A sum that 32 bits do not hold: 800100000, then 80010, then 18.
	if got := Check(bytes.Repeat([]byte{128, 1}, 1<<20)); got != 0xFFE7 {
		t.Errorf("2^20 times 8001: %x", got)
	}
}

// P1.3

func TestDec(t *testing.T) {
	for n, want := range map[int]string{
		0: "0", 7: "7", 10: "10", -1: "-1", -12: "-12", 1000000: "1000000",
		math.MaxInt: "9223372036854775807", math.MinInt: "-9223372036854775808",
	} {
		if got := Dec(n); got != want {
			t.Errorf("Dec(%d) = %q", n, got)
		}
		if got, ok := Parse(want); !ok || got != n {
			t.Errorf("Parse(%q) = %d, %v", want, got, ok)
		}
	}
}

func TestParseRefuses(t *testing.T) {
	for _, s := range []string{
		"", "-", "+", "--1", "+1", "+0", "-0", "00", "01", "-01", "007",
		" 1", "1 ", "1\n", "\x001", "1\x00", "1_000", "0x10", "1.0", "1e3", "ten", "1-", "a1", "1a",
		"٣", "１", "−1", "\xff",
		"9223372036854775808", "-9223372036854775809", "18446744073709551616", "18446744073709551617",
		strings.Repeat("9", 10000), "1" + strings.Repeat("0", 10000), strings.Repeat("0", 10000),
	} {
		if n, ok := Parse(s); ok || n != 0 {
			t.Errorf("Parse(%.40q) = %d, %v", s, n, ok)
		}
	}
}

// P1.4

func TestPutIsGot(t *testing.T) {
	for _, n := range samples() {
		for size := -1; size <= 9; size++ {
			want := n
			if size < 8 {
				want = n & (1<<(8*max(size, 0)) - 1)
			}
			if got := FromLe(Le(n, size)); got != want {
				t.Errorf("FromLe(Le(%x, %d)) = %x", n, size, got)
			}
			if got := FromBe(Be(n, size)); got != want {
				t.Errorf("FromBe(Be(%x, %d)) = %x", n, size, got)
			}
		}
		if got, ok := Parse(Dec(int(n))); !ok || got != int(n) {
			t.Errorf("Parse(Dec(%d)) = %d, %v", int(n), got, ok)
		}
	}
}

func TestCheckBehind(t *testing.T) {
	var b []byte
	for _, n := range samples() {
		for size := 0; size <= 8; size += 2 {
			p := Be(n, size)
			if got := Check(append(p, Be(uint64(Check(p)), 2)...)); got != 0 {
				t.Errorf("%x and its Check have the Check %x", p, got)
			}
		}
		b = append(b, Le(n, 8)...)
		if got := Check(append(bytes.Clone(b), Be(uint64(Check(b)), 2)...)); got != 0 {
			t.Errorf("%d bytes and their Check have the Check %x", len(b), got)
		}
	}
}

// R3: what is handed in is not changed, and answers share no memory.
func TestNothingShared(t *testing.T) {
	b := []byte{1, 2, 3, 4, 5, 6, 7, 8, 9}
	FromLe(b)
	FromBe(b)
	Check(b)
	if !bytes.Equal(b, []byte{1, 2, 3, 4, 5, 6, 7, 8, 9}) {
		t.Errorf("changed: %x", b)
	}
	for _, put := range []func(uint64, int) []byte{Le, Be} {
		one, two := put(sample, 8), put(sample, 8)
		clear(one)
		if bytes.Equal(one, two) || !bytes.Equal(two, put(sample, 8)) {
			t.Error("two answers share memory")
		}
	}
	long := append([]byte(nil), b...)
	if FromLe(long[:3]) != 0x030201 || FromBe(long[:3]) != 0x010203 || Check(long[:3]) != ^uint16(0x0402) {
		t.Error("what stands behind a list's end counts")
	}
}
