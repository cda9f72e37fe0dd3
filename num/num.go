// Package num is layer 1: numbers as bytes, sums of sixteen bits, and digits. See shared/doc/01-num.md.
package num

import "strconv"

// most is how many bytes a number has.
const most = 8

// order tells at which place of size bytes the one stands that is i bytes above the lowest.
type order interface {
	place(i, size int) int
}

type lowFirst struct{}

func (lowFirst) place(i, size int) int { return i }

type highFirst struct{}

func (highFirst) place(i, size int) int { return size - 1 - i }

// put lays the lowest size bytes of a number in an order.
func put[O order](o O, n uint64, size int) []byte {
	size = min(max(size, 0), most)
	b := make([]byte, size)
	for i := range size {
		b[o.place(i, size)] = byte(n >> (8 * i))
	}
	return b
}

// get takes the number of the first bytes in an order.
func get[O order](o O, b []byte) uint64 {
	size := min(len(b), most)
	n := uint64(0)
	for i := range size {
		n |= uint64(b[o.place(i, size)]) << (8 * i)
	}
	return n
}

// Le puts a number, the lowest byte first.
func Le(n uint64, size int) []byte { return put(lowFirst{}, n, size) }

// Be puts one, the highest byte first.
func Be(n uint64, size int) []byte { return put(highFirst{}, n, size) }

// FromLe gets one, the lowest byte first.
func FromLe(b []byte) uint64 { return get(lowFirst{}, b) }

// FromBe gets one, the highest byte first.
func FromBe(b []byte) uint64 { return get(highFirst{}, b) }

// Check sums bytes up, as numbers of sixteen bits.
func Check(b []byte) uint16 {
	// The sum is folded only at the end: 64 bits hold all that may be added.
	sum := uint64(0)
	for i := range len(b) {
		if i%2 == 0 {
			sum += uint64(b[i]) << 8
		} else {
			sum += uint64(b[i])
		}
	}
	for sum > 0xFFFF {
		sum = sum>>16 + sum&0xFFFF
	}
	return ^uint16(sum)
}

// Dec writes a number.
func Dec(n int) string { return strconv.Itoa(n) }

// Parse reads one.
func Parse(s string) (int, bool) {
	n, err := strconv.Atoi(s)
	// Atoi takes noughts and signs that Dec does not write.
	if err != nil || Dec(n) != s {
		return 0, false
	}
	return n, true
}
