package ring

import (
	"bytes"
	"fmt"
	"math"
	"slices"
	"testing"

	"phonograph/api"
)

// layout is where things lie in a ring of n descriptors, from its base on, counted by hand.
type layout struct {
	n, flags, avail, heads, usedFlags, used, entries, size int
}

// layouts are those of all rings that there are.
func layouts() []layout {
	return []layout{
		{1, 16, 18, 20, 24, 26, 28, 36},
		{2, 32, 34, 36, 40, 42, 44, 60},
		{4, 64, 66, 68, 76, 78, 80, 112},
		{8, 128, 130, 132, 148, 150, 152, 216},
		{16, 256, 258, 260, 292, 294, 296, 424},
	}
}

// noSizes are numbers of descriptors that no ring has, on both sides.
func noSizes() []int {
	return []int{
		0, 3, 5, 6, 7, 9, 10, 12, 15, 17, 18, 20, 24, 31, 32, 33, 48, 64, 128, 256, 257, 1024, 8192, 65536, 1 << 31, 1 << 32, 1<<32 + 4, 1 << 59, 1 << 60, 1 << 62,
		math.MaxInt - 1, math.MaxInt, -1, -2, -3, -4, -8, -16, -256, -1 << 31, -1 << 32, -1<<32 + 4, -1 << 60, math.MinInt, math.MinInt + 1, math.MinInt + 4,
	}
}

// counted answers a memory of n bytes, each unlike its neighbours.
func counted(n int) api.Mem {
	b := make([]byte, n)
	for i := range b {
		b[i] = byte(37*i + i/256 + 1)
	}
	return api.Mem{Bytes: b}
}

// filled answers a memory of n bytes of one kind.
func filled(n int, c byte) api.Mem { return api.Mem{Bytes: bytes.Repeat([]byte{c}, n)} }

// copied answers a memory that has nothing in common with the one that it was copied from.
func copied(m api.Mem) api.Mem { return api.Mem{Bytes: append([]byte(nil), m.Bytes...)} }

// low answers a number from bytes, the lowest one first.
func low(b []byte) uint64 {
	var n uint64
	for i := len(b) - 1; i >= 0; i-- {
		n = n*256 + uint64(b[i])
	}
	return n
}

// lay writes the size lowest bytes of a number over those of a list, the lowest one first.
func lay(b []byte, at, size int, n uint64) {
	for i := range size {
		b[at+i] = byte(n % 256)
		n /= 256
	}
}

// layDesc writes a descriptor over bytes, as P7.1 has it.
func layDesc(b []byte, at int, d api.Desc) {
	lay(b, at, 8, d.Addr)
	lay(b, at+8, 4, uint64(d.Len))
	lay(b, at+12, 2, uint64(d.Flags))
	lay(b, at+14, 2, uint64(d.Next))
}

// descAt reads a descriptor from bytes, as P7.1 has it.
func descAt(b []byte, at int) api.Desc {
	return api.Desc{Addr: low(b[at : at+8]), Len: uint32(low(b[at+8 : at+12])), Flags: uint16(low(b[at+12 : at+14])), Next: uint16(low(b[at+14 : at+16]))}
}

// isAs fails, unless a memory has these bytes.
func isAs(t *testing.T, what string, got api.Mem, want []byte) {
	t.Helper()
	if bytes.Equal(got.Bytes, want) {
		return
	}
	at := 0
	for at < len(want) && at < len(got.Bytes) && got.Bytes[at] == want[at] {
		at++
	}
	t.Fatalf("%s: %d bytes, not %d; unlike from %d on: %.16x, not %.16x", what, len(got.Bytes), len(want), at, got.Bytes[at:], want[at:])
}

// came fails, unless a call came to this error, and to a memory of these bytes.
func came(t *testing.T, what string, got api.Mem, e api.Errno, want []byte, err api.Errno) {
	t.Helper()
	if e != err {
		t.Fatalf("%s: %d, not %d", what, e, err)
	}
	isAs(t, what, got, want)
}

// spot is a ring in a memory.
type spot struct {
	layout
	m    api.Mem
	base int
}

func (s spot) String() string {
	return fmt.Sprintf("a ring of %d at %d of %d bytes", s.n, s.base, len(s.m.Bytes))
}

// spots are rings of each kind, in memories that are just as great as they are, and in greater ones, from their beginning to their end.
func spots() []spot {
	var l []spot
	for _, r := range layouts() {
		l = append(l, spot{r, counted(r.size), 0}, spot{r, filled(r.size, 0), 0}, spot{r, filled(r.size, 255), 0})
		for _, base := range []int{0, 1, 2, 3, 4, 5, 6, 7, 8, 13, 15, 16, 18, 35} {
			l = append(l, spot{r, counted(base + r.size), base}, spot{r, counted(base + r.size + 1), base}, spot{r, counted(600), base})
		}
		for _, base := range []int{0, 1, 2, 3, 4001, 4002, 4003, 4004, 8192 - r.size - 3, 8192 - r.size - 2, 8192 - r.size - 1, 8192 - r.size} {
			l = append(l, spot{r, counted(8192), base})
		}
	}
	return l
}

// noRing is where no ring may be.
type noRing struct {
	name    string
	m       api.Mem
	base, n int
}

// noRings are memories, places and sizes of which one, or several, are wrong.
func noRings() []noRing {
	var l []noRing
	for _, r := range layouts() {
		for _, n := range []int{0, 1, 15, 16, r.size - 1} {
			l = append(l, noRing{"too little memory", counted(n), 0, r.n})
		}
		l = append(l, noRing{"no memory, nil", api.Mem{}, 0, r.n}, noRing{"no memory, empty", api.Mem{Bytes: []byte{}}, 0, r.n})
		for _, n := range []int{r.size, r.size + 5, 600, 8192} {
			for _, base := range []int{
				n - r.size + 1, n - r.size + 2, n - r.size + 4, n - 1, n, n + 1, 8192, 8193, 1 << 31, 1 << 32, 1 << 62, math.MaxInt - r.size, math.MaxInt - r.size + 1, math.MaxInt - 1, math.MaxInt,
				-1, -2, -4, -16, -r.size, -n, -8192, -1 << 32, -1 << 62, math.MinInt, math.MinInt + 1, math.MinInt + r.size, math.MinInt + n,
			} {
				l = append(l, noRing{"a wrong base", counted(n), base, r.n})
			}
		}
		for _, n := range []int{8193, 8194, 10000, 1 << 16} {
			for _, base := range []int{0, 1, 4, 8192 - r.size, n - r.size, n, -1, math.MinInt, math.MaxInt} {
				l = append(l, noRing{"too much memory", counted(n), base, r.n})
			}
		}
	}
	for _, n := range noSizes() {
		for _, base := range []int{0, 1, 4, 500, 8192, 8193, -1, math.MinInt, math.MaxInt} {
			l = append(l, noRing{"a wrong n", counted(8192), base, n}, noRing{"a wrong n and no memory", api.Mem{}, base, n}, noRing{"a wrong n and too much memory", counted(8193), base, n})
		}
	}
	return l
}

// someDescs is what a descriptor may be: each number at 0, 1, in the midst and at its greatest, the others at 0, unlike one another, or at their greatest.
func someDescs() []api.Desc {
	some := api.Desc{Addr: 0x0123456789ABCDEF, Len: 0xFEDCBA98, Flags: 0x1357, Next: 0x2468}
	most := api.Desc{Addr: math.MaxUint64, Len: math.MaxUint32, Flags: math.MaxUint16, Next: math.MaxUint16}
	l := []api.Desc{{}, some, most}
	for _, d := range []api.Desc{{}, some, most} {
		for _, x := range []uint64{0, 1, 255, 256, 65535, 65536, 1<<32 - 1, 1 << 32, 1 << 63, 0x8070605040302010, math.MaxUint64} {
			a, b, c, e := d, d, d, d
			a.Addr, b.Len, c.Flags, e.Next = x, uint32(x), uint16(x), uint16(x)
			l = append(l, a, b, c, e)
		}
	}
	return l
}

// someUsed is what a used one may be.
func someUsed() []api.Used {
	var l []api.Used
	for _, id := range []uint32{0, 1, 255, 256, 65535, 65536, 0x01234567, 1 << 31, math.MaxUint32} {
		for _, n := range []uint32{0, 1, 255, 256, 65535, 65536, 0xFEDCBA98, 1 << 31, math.MaxUint32} {
			l = append(l, api.Used{ID: id, Len: n})
		}
	}
	return l
}

// someIndices are places around those at which they turn round.
func someIndices(n int) []uint16 {
	l := []uint16{0, 1, 2, 3, 5, 15, 16, 17, 255, 256, 257, 32767, 32768, 65519, 65520, 65532, 65533, 65534, 65535}
	return append(l, uint16(n-1), uint16(n), uint16(n+1), uint16(2*n-1), uint16(2*n), uint16(65536-n), uint16(65535-n))
}

// noDescs are numbers of descriptors that a ring of n has not.
func noDescs(n int) []int {
	return []int{
		-1, -2, -n, -16, -256, -65536, -1 << 32, -1 << 60, math.MinInt, math.MinInt + 1,
		n, n + 1, 2 * n, 16, 17, 32, 255, 256, 65535, 65536, 1 << 32, 1<<32 + 1, 1 << 60, math.MaxInt - 1, math.MaxInt,
	}
}

// P7.1

func TestSize(t *testing.T) {
	for _, r := range layouts() {
		if got := Size(r.n); got != r.size {
			t.Errorf("Size(%d): %d, not %d", r.n, got, r.size)
		}
	}
	for _, n := range noSizes() {
		if got := Size(n); got != 0 {
			t.Errorf("Size(%d): %d", n, got)
		}
	}
	for n := -1000; n <= 1000; n++ {
		if (Size(n) != 0) != slices.Contains([]int{1, 2, 4, 8, 16}, n) {
			t.Errorf("Size(%d): %d", n, Size(n))
		}
	}
}

// TestExample: the chapter's.
func TestExample(t *testing.T) {
	if Size(4) != 64+12+36 || Size(4) != 112 {
		t.Errorf("Size(4): %d", Size(4))
	}
}

func TestCheck(t *testing.T) {
	for _, s := range spots() {
		if !Check(s.m, s.base, s.n) {
			t.Errorf("there may be %v", s)
		}
	}
	for _, s := range noRings() {
		if Check(s.m, s.base, s.n) {
			t.Errorf("%s: there may be no ring of %d at %d of %d bytes", s.name, s.n, s.base, len(s.m.Bytes))
		}
	}
}

// TestCheckAll: each place in each memory around a ring's size, whatever the place is a multiple of.
func TestCheckAll(t *testing.T) {
	for _, r := range layouts() {
		for size := r.size - 3; size <= r.size+9; size++ {
			for base := -5; base <= 15; base++ {
				want := base >= 0 && base+r.size <= size
				if got := Check(counted(size), base, r.n); got != want {
					t.Errorf("a ring of %d at %d of %d bytes: %v", r.n, base, size, got)
				}
			}
		}
		for base := 8192 - r.size - 5; base <= 8197; base++ {
			if got := Check(counted(8192), base, r.n); got != (base+r.size <= 8192) {
				t.Errorf("a ring of %d at %d of 8192 bytes: %v", r.n, base, got)
			}
		}
	}
}

// TestNoRing: ErrRing comes first, whatever else is wrong, with zero, or memory as it was.
func TestNoRing(t *testing.T) {
	for _, s := range noRings() {
		m, base, n := s.m, s.base, s.n
		was := bytes.Clone(m.Bytes)
		what := fmt.Sprintf("%s: a ring of %d at %d of %d bytes", s.name, n, base, len(was))
		for _, i := range []int{0, 1, -1, n - 1, n, math.MinInt, math.MaxInt} {
			if d, e := Desc(m, base, n, i); e != api.ErrRing || d != (api.Desc{}) {
				t.Fatalf("%s: Desc(%d): %v, %d", what, i, d, e)
			}
			got, e := SetDesc(m, base, n, i, api.Desc{Addr: 1, Len: 2, Flags: 3, Next: 4})
			came(t, what+": SetDesc", got, e, was, api.ErrRing)
			got, e = Offer(m, base, n, uint16(i), i)
			came(t, what+": Offer", got, e, was, api.ErrRing)
			got, e = Return(m, base, n, uint16(i), api.Used{ID: 1, Len: 2})
			came(t, what+": Return", got, e, was, api.ErrRing)
			if h, e := AvailAt(m, base, n, uint16(i)); e != api.ErrRing || h != 0 {
				t.Fatalf("%s: AvailAt(%d): %d, %d", what, i, h, e)
			}
			if u, e := UsedAt(m, base, n, uint16(i)); e != api.ErrRing || u != (api.Used{}) {
				t.Fatalf("%s: UsedAt(%d): %v, %d", what, i, u, e)
			}
		}
		if i, e := Avail(m, base, n); e != api.ErrRing || i != 0 {
			t.Fatalf("%s: Avail: %d, %d", what, i, e)
		}
		if i, e := Used(m, base, n); e != api.ErrRing || i != 0 {
			t.Fatalf("%s: Used: %d, %d", what, i, e)
		}
		isAs(t, what+": handed in", m, was)
	}
}

// P7.2

// TestDesc: each descriptor is the one whose bytes lie there, the lowest first.
func TestDesc(t *testing.T) {
	for _, s := range spots() {
		was := bytes.Clone(s.m.Bytes)
		for i := range s.n {
			d, e := Desc(s.m, s.base, s.n, i)
			if want := descAt(was, s.base+16*i); e != api.OK || d != want {
				t.Fatalf("%v: Desc(%d): %x, %d, not %x", s, i, d, e, want)
			}
		}
		isAs(t, "handed in", s.m, was)
	}
	m := filled(60, 0)
	copy(m.Bytes[3+16:], []byte{1, 2, 3, 4, 5, 6, 7, 8, 9, 10, 11, 12, 13, 14, 15, 16})
	want := api.Desc{Addr: 0x0807060504030201, Len: 0x0C0B0A09, Flags: 0x0E0D, Next: 0x100F}
	if d, e := Desc(api.Mem{Bytes: append(m.Bytes, 0, 0, 0)}, 3, 2, 1); e != api.OK || d != want {
		t.Errorf("Desc: %x, %d, not %x", d, e, want)
	}
}

// TestDescBytes: each byte of a ring's descriptors belongs to one number of one of them, and none behind them does.
func TestDescBytes(t *testing.T) {
	for _, s := range spots() {
		if len(s.m.Bytes) > 600 {
			continue
		}
		for at := range s.m.Bytes {
			m := filled(len(s.m.Bytes), 0)
			m.Bytes[at] = 0xA5
			for i := range s.n {
				d, e := Desc(m, s.base, s.n, i)
				want := descAt(m.Bytes, s.base+16*i)
				if e != api.OK || d != want || (d != api.Desc{}) != (at >= s.base+16*i && at < s.base+16*i+16) {
					t.Fatalf("%v: byte %d: Desc(%d): %x, %d", s, at, i, d, e)
				}
			}
		}
	}
}

func TestSetDesc(t *testing.T) {
	for _, s := range spots() {
		was := bytes.Clone(s.m.Bytes)
		for k, d := range someDescs() {
			for i := range s.n {
				if s.n > 4 && (i+k)%5 != 0 {
					continue
				}
				want := bytes.Clone(was)
				layDesc(want, s.base+16*i, d)
				got, e := SetDesc(s.m, s.base, s.n, i, d)
				came(t, fmt.Sprintf("%v: SetDesc(%d, %x)", s, i, d), got, e, want, api.OK)
				if there, e := Desc(got, s.base, s.n, i); e != api.OK || there != d {
					t.Fatalf("%v: %x is set, and %x is there: %d", s, d, there, e)
				}
				again, e := SetDesc(got, s.base, s.n, i, d)
				came(t, "set once more", again, e, want, api.OK)
			}
		}
		isAs(t, "handed in", s.m, was)
	}
}

// TestSetOneNumber: of what is set no number stays as it was because the others are what they were.
func TestSetOneNumber(t *testing.T) {
	old := api.Desc{Addr: 0x0123456789ABCDEF, Len: 0xFEDCBA98, Flags: 0x1357, Next: 0x2468}
	for at := range 16 {
		for bit := range 8 {
			want := filled(112, 0x77).Bytes
			layDesc(want, 32, old)
			m := api.Mem{Bytes: bytes.Clone(want)}
			want[32+at] ^= 1 << bit
			got, e := SetDesc(m, 0, 4, 2, descAt(want, 32))
			came(t, fmt.Sprintf("bit %d of byte %d", bit, at), got, e, want, api.OK)
		}
	}
}

func TestDescArg(t *testing.T) {
	for _, s := range spots() {
		was := bytes.Clone(s.m.Bytes)
		for _, i := range noDescs(s.n) {
			if i >= 0 && i < s.n {
				continue
			}
			if d, e := Desc(s.m, s.base, s.n, i); e != api.ErrArg || d != (api.Desc{}) {
				t.Fatalf("%v: Desc(%d): %x, %d", s, i, d, e)
			}
			for _, d := range []api.Desc{{}, {Addr: math.MaxUint64, Len: 1, Flags: 2, Next: 3}} {
				got, e := SetDesc(s.m, s.base, s.n, i, d)
				came(t, fmt.Sprintf("%v: SetDesc(%d)", s, i), got, e, was, api.ErrArg)
			}
		}
		isAs(t, "handed in", s.m, was)
	}
}

// TestIndex: the index of each part is the one whose bytes lie there, whatever lies beside them.
func TestIndex(t *testing.T) {
	for _, s := range spots() {
		for _, i := range append(someIndices(s.n), 0x0102, 0x8040) {
			for _, c := range []byte{0, 255, 0x5A} {
				m := filled(len(s.m.Bytes), c)
				lay(m.Bytes, s.base+s.avail, 2, uint64(i))
				lay(m.Bytes, s.base+s.used, 2, uint64(i^0x5555))
				was := bytes.Clone(m.Bytes)
				if got, e := Avail(m, s.base, s.n); e != api.OK || got != i {
					t.Fatalf("%v: Avail: %d, %d, not %d", s, got, e, i)
				}
				if got, e := Used(m, s.base, s.n); e != api.OK || got != i^0x5555 {
					t.Fatalf("%v: Used: %d, %d, not %d", s, got, e, i^0x5555)
				}
				isAs(t, "handed in", m, was)
			}
		}
	}
}

// TestAt: the head, and the used one, at a place are those whose bytes lie at the place modulo n.
func TestAt(t *testing.T) {
	for _, s := range spots() {
		was := bytes.Clone(s.m.Bytes)
		for _, i := range someIndices(s.n) {
			turned := int(i) % s.n
			head, at := s.base+s.heads+2*turned, s.base+s.entries+8*turned
			if got, e := AvailAt(s.m, s.base, s.n, i); e != api.OK || got != int(low(was[head:head+2])) {
				t.Fatalf("%v: AvailAt(%d): %x, %d, not %x", s, i, got, e, was[head:head+2])
			}
			want := api.Used{ID: uint32(low(was[at : at+4])), Len: uint32(low(was[at+4 : at+8]))}
			if got, e := UsedAt(s.m, s.base, s.n, i); e != api.OK || got != want {
				t.Fatalf("%v: UsedAt(%d): %x, %d, not %x", s, i, got, e, want)
			}
		}
		isAs(t, "handed in", s.m, was)
	}
}

// TestAtAll: places go round through all their numbers, and each entry comes as often as each other one.
func TestAtAll(t *testing.T) {
	for _, r := range layouts() {
		m := filled(r.size+3, 0)
		for i := range r.n {
			lay(m.Bytes, 3+r.heads+2*i, 2, uint64(100+i))
			lay(m.Bytes, 3+r.entries+8*i, 4, uint64(200+i))
			lay(m.Bytes, 3+r.entries+8*i+4, 4, uint64(300+i))
		}
		turned := 0
		for i := range 65536 {
			if got, e := AvailAt(m, 3, r.n, uint16(i)); e != api.OK || got != 100+turned {
				t.Fatalf("AvailAt(%d) of %d: %d, %d", i, r.n, got, e)
			}
			if got, e := UsedAt(m, 3, r.n, uint16(i)); e != api.OK || got != (api.Used{ID: uint32(200 + turned), Len: uint32(300 + turned)}) {
				t.Fatalf("UsedAt(%d) of %d: %v, %d", i, r.n, got, e)
			}
			if turned++; turned == r.n {
				turned = 0
			}
		}
	}
}

// heads are numbers that are offered, and what they are modulo 2^16.
func heads() map[int]uint16 {
	return map[int]uint16{
		0: 0, 1: 1, 2: 2, 15: 15, 16: 16, 255: 255, 256: 256, 258: 258, 32767: 32767, 32768: 32768, 65534: 65534, 65535: 65535,
		65536: 0, 65537: 1, 65538: 2, 131071: 65535, 131072: 0, 1 << 31: 0, 1<<32 + 7: 7, 1<<62 + 300: 300, math.MaxInt - 1: 65534, math.MaxInt: 65535,
		-1: 65535, -2: 65534, -256: 65280, -32768: 32768, -65535: 1, -65536: 0, -65537: 65535, -1 << 32: 0, -1<<32 - 3: 65533, math.MinInt: 0, math.MinInt + 9: 9,
	}
}

func TestOffer(t *testing.T) {
	for _, s := range spots() {
		was := bytes.Clone(s.m.Bytes)
		for _, i := range someIndices(s.n) {
			for head, turned := range heads() {
				if s.n > 2 && head > 2 && head < 65535 {
					continue
				}
				want := bytes.Clone(was)
				lay(want, s.base+s.heads+2*(int(i)%s.n), 2, uint64(turned))
				lay(want, s.base+s.avail, 2, uint64((int(i)+1)%65536))
				got, e := Offer(s.m, s.base, s.n, i, head)
				came(t, fmt.Sprintf("%v: Offer(%d, %d)", s, i, head), got, e, want, api.OK)
				if h, e := AvailAt(got, s.base, s.n, i); e != api.OK || h != int(turned) {
					t.Fatalf("%v: %d is offered at %d, and %d is there: %d", s, head, i, h, e)
				}
				if x, e := Avail(got, s.base, s.n); e != api.OK || int(x) != (int(i)+1)%65536 {
					t.Fatalf("%v: Offer(%d): the index is %d: %d", s, i, x, e)
				}
			}
		}
		isAs(t, "handed in", s.m, was)
	}
}

func TestReturn(t *testing.T) {
	for _, s := range spots() {
		was := bytes.Clone(s.m.Bytes)
		for k, u := range someUsed() {
			for j, i := range someIndices(s.n) {
				if (j+k)%7 != 0 {
					continue
				}
				want := bytes.Clone(was)
				at := s.base + s.entries + 8*(int(i)%s.n)
				lay(want, at, 4, uint64(u.ID))
				lay(want, at+4, 4, uint64(u.Len))
				lay(want, s.base+s.used, 2, uint64((int(i)+1)%65536))
				got, e := Return(s.m, s.base, s.n, i, u)
				came(t, fmt.Sprintf("%v: Return(%d, %x)", s, i, u), got, e, want, api.OK)
				if there, e := UsedAt(got, s.base, s.n, i); e != api.OK || there != u {
					t.Fatalf("%v: %x is returned at %d, and %x is there: %d", s, u, i, there, e)
				}
				if x, e := Used(got, s.base, s.n); e != api.OK || int(x) != (int(i)+1)%65536 {
					t.Fatalf("%v: Return(%d): the index is %d: %d", s, i, x, e)
				}
			}
		}
		isAs(t, "handed in", s.m, was)
	}
}

// TestTurnsRound: an index at its greatest has 0 behind it.
func TestTurnsRound(t *testing.T) {
	for _, r := range layouts() {
		m := filled(r.size, 0x33)
		m, e := Offer(m, 0, r.n, 65535, 7)
		m, f := Return(m, 0, r.n, 65535, api.Used{ID: 8, Len: 9})
		i, _ := Avail(m, 0, r.n)
		j, _ := Used(m, 0, r.n)
		h, _ := AvailAt(m, 0, r.n, uint16(r.n-1))
		u, _ := UsedAt(m, 0, r.n, uint16(r.n-1))
		if e != api.OK || f != api.OK || i != 0 || j != 0 || h != 7 || u != (api.Used{ID: 8, Len: 9}) {
			t.Errorf("a ring of %d: %d, %d, %d, %v; %d, %d", r.n, i, j, h, u, e, f)
		}
	}
}

// P7.3

// kept is what was set in a ring, beside it.
type kept struct {
	descs       []api.Desc
	heads       []uint16
	used        []api.Used
	avail, last uint16
}

// keptOf answers what a ring of zeros has.
func keptOf(n int) *kept {
	return &kept{descs: make([]api.Desc, n), heads: make([]uint16, n), used: make([]api.Used, n)}
}

// holds fails, unless a ring has all that was set in it.
func (k *kept) holds(t *testing.T, m api.Mem, base, n int) {
	t.Helper()
	for i := range n {
		d, e := Desc(m, base, n, i)
		h, f := AvailAt(m, base, n, uint16(i))
		u, g := UsedAt(m, base, n, uint16(i))
		if d != k.descs[i] || h != int(k.heads[i]) || u != k.used[i] || e != api.OK || f != api.OK || g != api.OK {
			t.Fatalf("at %d of %d: %v, %d, %v, not %v, %d, %v; %d, %d, %d", i, n, d, h, u, k.descs[i], k.heads[i], k.used[i], e, f, g)
		}
	}
	i, e := Avail(m, base, n)
	j, f := Used(m, base, n)
	if i != k.avail || j != k.last || e != api.OK || f != api.OK {
		t.Fatalf("a ring of %d: the indices are %d, %d, not %d, %d; %d, %d", n, i, j, k.avail, k.last, e, f)
	}
}

// chance makes a function that answers numbers below one that it is handed, the same ones again for the same seed.
func chance(seed uint64) func(n int) int {
	x := seed*2862933555777941757 + 3037000493
	return func(n int) int {
		x = x*6364136223846793005 + 1442695040888963407
		return int(x >> 33 % uint64(n))
	}
}

// change makes one call on a ring, and does the same to what is kept beside it.
func change(t *testing.T, next func(int) int, m api.Mem, base, n int, k *kept) api.Mem {
	t.Helper()
	e := api.OK
	i := uint16(next(65536))
	switch next(5) {
	case 0:
		at := next(n)
		d := api.Desc{Addr: uint64(next(1<<31)) << next(33), Len: uint32(next(1 << 31)), Flags: i, Next: uint16(next(65536))}
		m, e = SetDesc(m, base, n, at, d)
		k.descs[at] = d
	case 1:
		head := next(1<<31) - 1<<30
		m, e = Offer(m, base, n, i, head)
		k.heads[int(i)%n], k.avail = uint16((head%65536+65536)%65536), i+1
	case 2:
		u := api.Used{ID: uint32(next(1<<31)) * 2, Len: uint32(next(1 << 31))}
		m, e = Return(m, base, n, i, u)
		k.used[int(i)%n], k.last = u, i+1
	case 3:
		head := next(n)
		m, e = Offer(m, base, n, k.avail, head)
		k.heads[int(k.avail)%n] = uint16(head)
		k.avail++
	case 4:
		u := api.Used{ID: uint32(next(n)), Len: uint32(next(300))}
		m, e = Return(m, base, n, k.last, u)
		k.used[int(k.last)%n] = u
		k.last++
	}
	if e != api.OK {
		t.Fatalf("a ring of %d at %d: %d", n, base, e)
	}
	return m
}

// TestManyChanges: rings side by side in one memory, with nothing between them, and one call behind another on any of them: each has what was set in it, and no byte that belongs to none of them is changed.
func TestManyChanges(t *testing.T) {
	for seed := range 12 {
		next := chance(uint64(seed))
		ahead := next(9)
		m, at := filled(1000, 0), ahead
		var bases []int
		var ks []*kept
		for _, r := range layouts() {
			bases, ks = append(bases, at), append(ks, keptOf(r.n))
			at += r.size
		}
		for i := range m.Bytes[:ahead] {
			m.Bytes[i] = 0xEE
		}
		for i := range m.Bytes[at:] {
			m.Bytes[at+i] = 0xEE
		}
		for range 1500 {
			which := next(5)
			m = change(t, next, m, bases[which], layouts()[which].n, ks[which])
			if next(20) == 0 {
				for j, r := range layouts() {
					ks[j].holds(t, m, bases[j], r.n)
				}
			}
		}
		for j, r := range layouts() {
			ks[j].holds(t, m, bases[j], r.n)
			for _, c := range []int{r.flags, r.usedFlags} {
				if m.Bytes[bases[j]+c] != 0 || m.Bytes[bases[j]+c+1] != 0 {
					t.Fatalf("a ring of %d: its flags were changed", r.n)
				}
			}
		}
		beside := slices.Concat(m.Bytes[:ahead], m.Bytes[at:])
		isAs(t, "what lies beside the rings", api.Mem{Bytes: beside}, filled(1000-at+ahead, 0xEE).Bytes)
	}
}

// TestGap: the bytes between what is available and what is used are nobody's, and stay as they were.
func TestGap(t *testing.T) {
	for _, base := range []int{0, 1, 2, 3} {
		m := filled(36+base, 0xAB)
		m, e := SetDesc(m, base, 1, 0, api.Desc{})
		m, f := Offer(m, base, 1, 0, 0)
		m, g := Return(m, base, 1, 0, api.Used{})
		want := filled(36+base, 0xAB).Bytes
		clear(want[base : base+16])
		copy(want[base+18:], []byte{1, 0, 0, 0})
		copy(want[base+26:], []byte{1, 0, 0, 0, 0, 0, 0, 0, 0, 0})
		came(t, "all is set", m, max(e, f, g), want, api.OK)
	}
}

// R1, R3: what no call made, and lists that nobody shares.

func TestZeroValue(t *testing.T) {
	m := api.Mem{}
	if Check(m, 0, 0) || Check(m, 0, 1) || Size(0) != 0 {
		t.Error("there is no ring of nothing")
	}
	got, e := SetDesc(m, 0, 0, 0, api.Desc{})
	came(t, "SetDesc", got, e, nil, api.ErrRing)
	got, e = Offer(m, 0, 0, 0, 0)
	came(t, "Offer", got, e, nil, api.ErrRing)
	got, e = Return(m, 0, 0, 0, api.Used{})
	came(t, "Return", got, e, nil, api.ErrRing)
}

// wipe overwrites a list, and what room there is behind it.
func wipe(b []byte) {
	b = b[:cap(b)]
	for i := range b {
		b[i] = 0xEE
	}
}

func TestNothingShared(t *testing.T) {
	ms := []api.Mem{counted(150), counted(8193), filled(150, 0), {Bytes: counted(300).Bytes[:111]}, {}}
	answers := func() [][]byte {
		var l [][]byte
		add := func(got api.Mem, e api.Errno) { l = append(l, got.Bytes) }
		for _, m := range ms {
			for _, base := range []int{-1, 0, 5, 39} {
				for _, i := range []int{-1, 0, 3, 4} {
					there, _ := Desc(m, base, 4, i)
					add(SetDesc(m, base, 4, i, api.Desc{Addr: 5, Len: 6, Flags: 7, Next: 8}))
					add(SetDesc(m, base, 4, i, there))
					add(Offer(m, base, 4, uint16(i), i))
					add(Return(m, base, 4, uint16(i), api.Used{ID: 9, Len: 10}))
				}
				// What is put is what was there already.
				h, _ := AvailAt(m, base, 4, 0)
				u, _ := UsedAt(m, base, 4, 0)
				add(Offer(m, base, 4, 0, h))
				add(Return(m, base, 4, 0, u))
			}
		}
		return l
	}
	want := answers()
	for i, a := range answers() {
		wipe(a)
		for j, was := range [][]byte{counted(150).Bytes, counted(8193).Bytes, filled(150, 0).Bytes, counted(300).Bytes[:111], nil} {
			isAs(t, fmt.Sprintf("answer %d: handed in, %d", i, j), ms[j], was)
		}
		if i%16 != 0 {
			continue
		}
		for j, again := range answers() {
			if !bytes.Equal(again, want[j]) {
				t.Fatalf("answer %d is told by answer %d", j, i)
			}
		}
	}
}

// TestRoom: what room stands behind a memory's end is nobody's: no ring lies in it, and it stays as it was.
func TestRoom(t *testing.T) {
	long := counted(400).Bytes
	for _, n := range []int{111, 112, 113} {
		m := api.Mem{Bytes: long[:n]}
		if Check(m, 0, 4) != (n >= 112) || Check(m, n-111, 4) {
			t.Errorf("rings in %d bytes: %v, %v", n, Check(m, 0, 4), Check(m, n-111, 4))
		}
		for i := range uint16(6) {
			got, _ := SetDesc(m, 0, 4, int(i), api.Desc{Addr: 1})
			_ = append(got.Bytes, 7)
			got, _ = Offer(m, 0, 4, i, 2)
			_ = append(got.Bytes, 8)
			got, _ = Return(m, 0, 4, i, api.Used{ID: 3})
			_ = append(got.Bytes, 9)
		}
		if !bytes.Equal(long, counted(400).Bytes) {
			t.Fatal("what stands behind a memory's end was changed")
		}
	}
	if !Check(api.Mem{Bytes: counted(9000).Bytes[:8192]}, 8192-112, 4) {
		t.Error("room behind a memory's end is nobody's")
	}
}
