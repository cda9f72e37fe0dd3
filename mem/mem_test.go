package mem

import (
	"bytes"
	"math"
	"slices"
	"testing"

	"phonograph/api"
)

const sample = uint64(0x0123456789ABCDEF)

// counted answers a memory of n bytes, each unlike its neighbours.
func counted(n int) api.Mem {
	b := make([]byte, n)
	for i := range b {
		b[i] = byte(37*i + i/256 + 1)
	}
	return api.Mem{Bytes: b}
}

// sizes are those of memories that may be, from none to the greatest.
func sizes() []int { return []int{0, 1, 2, 7, 8, 9, 256, 8191, 8192} }

// tooGreat are memories that do not Check.
func tooGreat() []api.Mem { return []api.Mem{counted(8193), counted(8200), counted(1 << 16)} }

// edges are places or numbers around a memory's ends, and far from them.
func edges(size int) []int {
	return []int{
		math.MinInt, math.MinInt + 1, -8193, -8192, -9, -8, -1, 0, 1, 2, 7, 8, 9,
		size / 2, size - 9, size - 8, size - 7, size - 2, size - 1, size, size + 1, size + 8,
		8191, 8192, 8193, 1 << 32, math.MaxInt - 8192, math.MaxInt - size, math.MaxInt - 8, math.MaxInt - 1, math.MaxInt,
	}
}

// there tells whether at and n are from 0 on, and the memory's size is not behind them. It adds nothing up.
func there(size, at, n int) bool {
	return at >= 0 && n >= 0 && at <= size && n <= size && at <= size-n
}

// bytesOf answers the size lowest bytes of a number, the lowest first.
func bytesOf(n uint64, size int) []byte {
	b := make([]byte, size)
	for i := range b {
		b[i] = byte(n % 256)
		n /= 256
	}
	return b
}

// with answers bytes, and b among them from at on.
func with(old []byte, at int, b []byte) []byte {
	l := bytes.Clone(old)
	for i, c := range b {
		l[at+i] = c
	}
	return l
}

// isAs fails, unless a memory has these bytes.
func isAs(t *testing.T, what string, got api.Mem, want []byte) {
	t.Helper()
	if !bytes.Equal(got.Bytes, want) {
		t.Fatalf("%s: the memory has %.40x (%d bytes), not %.40x (%d)", what, got.Bytes, len(got.Bytes), want, len(want))
	}
}

// P4.1

func TestCheck(t *testing.T) {
	for _, m := range []api.Mem{{}, {Bytes: nil}, {Bytes: []byte{}}} {
		if !Check(m) {
			t.Error("a memory of no bytes may be")
		}
	}
	for _, n := range sizes() {
		if !Check(counted(n)) || !Check(api.Mem{Bytes: make([]byte, n)}) {
			t.Errorf("a memory of %d bytes may be", n)
		}
	}
	for _, m := range tooGreat() {
		if Check(m) {
			t.Errorf("a memory of %d bytes may not be", len(m.Bytes))
		}
		if !Check(api.Mem{Bytes: m.Bytes[:8192]}) {
			t.Error("what room there is behind the end is nobody's")
		}
	}
}

func TestNew(t *testing.T) {
	for _, n := range sizes() {
		m, e := New(n)
		if e != api.OK || len(m.Bytes) != n || !Check(m) {
			t.Errorf("New(%d): %d bytes, %d", n, len(m.Bytes), e)
		}
		if slices.ContainsFunc(m.Bytes, func(c byte) bool { return c != 0 }) {
			t.Errorf("New(%d) is not of zeros alone", n)
		}
	}
	for _, n := range []int{-1, -2, -8192, math.MinInt, 8193, 8194, 1 << 20, 1 << 40, math.MaxInt} {
		if m, e := New(n); e != api.ErrArg || len(m.Bytes) != 0 {
			t.Errorf("New(%d): %d bytes, %d", n, len(m.Bytes), e)
		}
	}
}

// TestForm: of memory that does not Check ErrForm comes first, whatever else is wrong, and it stays as it was.
func TestForm(t *testing.T) {
	for _, m := range tooGreat() {
		was := bytes.Clone(m.Bytes)
		for _, at := range []int{math.MinInt, -1, 0, 1, 8191, 8192, 8193, 1 << 16, math.MaxInt} {
			for _, n := range []int{math.MinInt, -1, 0, 1, 8, 9, 8192, 8193, math.MaxInt} {
				if b, e := Get(m, at, n); e != api.ErrForm || len(b) != 0 {
					t.Fatalf("Get(%d, %d) of %d bytes: %x, %d", at, n, len(was), b, e)
				}
				if x, e := Num(m, at, n); e != api.ErrForm || x != 0 {
					t.Fatalf("Num(%d, %d) of %d bytes: %x, %d", at, n, len(was), x, e)
				}
				got, e := PutNum(m, at, n, sample)
				if e != api.ErrForm {
					t.Fatalf("PutNum(%d, %d) of %d bytes: %d", at, n, len(was), e)
				}
				isAs(t, "PutNum, refused", got, was)
			}
			for _, b := range [][]byte{nil, {}, {1}, make([]byte, 8193)} {
				got, e := Put(m, at, b)
				if e != api.ErrForm {
					t.Fatalf("Put(%d) of %d bytes: %d", at, len(was), e)
				}
				isAs(t, "Put, refused", got, was)
			}
		}
		isAs(t, "handed in", m, was)
	}
}

// P4.2

func TestGetSome(t *testing.T) {
	m := api.Mem{Bytes: []byte{10, 11, 12, 13}}
	for _, c := range []struct {
		at, n int
		want  []byte
		e     api.Errno
	}{
		{0, 4, []byte{10, 11, 12, 13}, api.OK},
		{0, 0, nil, api.OK},
		{0, 1, []byte{10}, api.OK},
		{1, 2, []byte{11, 12}, api.OK},
		{3, 1, []byte{13}, api.OK},
		{3, 0, nil, api.OK},
		{4, 0, nil, api.OK},
		{4, 1, nil, api.ErrRange},
		{3, 2, nil, api.ErrRange},
		{0, 5, nil, api.ErrRange},
		{5, 0, nil, api.ErrRange},
		{-1, 1, nil, api.ErrRange},
		{-1, 0, nil, api.ErrRange},
		{-1, 5, nil, api.ErrRange},
		{0, -1, nil, api.ErrRange},
		{4, -1, nil, api.ErrRange},
		{5, -1, nil, api.ErrRange},
		{-4, -4, nil, api.ErrRange},
		{1, math.MaxInt, nil, api.ErrRange},
		{math.MaxInt, 1, nil, api.ErrRange},
		{math.MaxInt, 0, nil, api.ErrRange},
		{math.MaxInt, math.MaxInt, nil, api.ErrRange},
		{math.MinInt, math.MinInt, nil, api.ErrRange},
		{math.MaxInt, math.MinInt, nil, api.ErrRange},
		{math.MinInt, math.MaxInt, nil, api.ErrRange},
	} {
		if b, e := Get(m, c.at, c.n); e != c.e || !bytes.Equal(b, c.want) {
			t.Errorf("Get(%d, %d) = %v, %d, not %v, %d", c.at, c.n, b, e, c.want, c.e)
		}
	}
}

func TestGet(t *testing.T) {
	for _, size := range sizes() {
		m := counted(size)
		for _, at := range edges(size) {
			for _, n := range edges(size) {
				b, e := Get(m, at, n)
				if !there(size, at, n) {
					if e != api.ErrRange || len(b) != 0 {
						t.Fatalf("Get(%d, %d) of %d bytes: %d bytes, %d", at, n, size, len(b), e)
					}
					continue
				}
				if e != api.OK || len(b) != n {
					t.Fatalf("Get(%d, %d) of %d bytes: %d bytes, %d", at, n, size, len(b), e)
				}
				for i, c := range b {
					if c != m.Bytes[at+i] {
						t.Fatalf("Get(%d, %d) of %d bytes has %d at %d", at, n, size, c, i)
					}
				}
			}
		}
	}
}

// TestExample: the chapter's.
func TestExample(t *testing.T) {
	m, _ := New(4)
	got, e := Put(m, 3, []byte{7})
	if e != api.OK {
		t.Errorf("at 3: %d", e)
	}
	isAs(t, "at 3", got, []byte{0, 0, 0, 7})
	got, e = Put(m, 4, []byte{7})
	if e != api.ErrRange {
		t.Errorf("at 4: %d", e)
	}
	isAs(t, "at 4", got, []byte{0, 0, 0, 0})
}

func TestPut(t *testing.T) {
	for _, size := range sizes() {
		m := counted(size)
		was := bytes.Clone(m.Bytes)
		for _, at := range edges(size) {
			for _, n := range edges(size) {
				if n < 0 || n > 8201 {
					continue
				}
				b := bytes.Repeat([]byte{0xA5, 0x5A, 0xC3}, n/3+1)[:n]
				got, e := Put(m, at, b)
				if there(size, at, n) {
					if e != api.OK {
						t.Fatalf("Put(%d) of %d bytes into %d: %d", at, n, size, e)
					}
					isAs(t, "Put", got, with(was, at, b))
				} else {
					if e != api.ErrRange {
						t.Fatalf("Put(%d) of %d bytes into %d: %d", at, n, size, e)
					}
					isAs(t, "Put, refused", got, was)
				}
				isAs(t, "handed in", m, was)
			}
		}
	}
}

// TestPutNothing: of no bytes all are there, wherever there is a place, also at the end.
func TestPutNothing(t *testing.T) {
	for _, size := range sizes() {
		m := counted(size)
		for _, b := range [][]byte{nil, {}} {
			for at, want := range map[int]api.Errno{0: api.OK, size: api.OK, size + 1: api.ErrRange, -1: api.ErrRange, math.MaxInt: api.ErrRange} {
				got, e := Put(m, at, b)
				if e != want {
					t.Errorf("nothing at %d of %d: %d", at, size, e)
				}
				isAs(t, "nothing", got, m.Bytes)
			}
		}
	}
}

func TestNum(t *testing.T) {
	m := api.Mem{Bytes: []byte{0xEF, 0xCD, 0xAB, 0x89, 0x67, 0x45, 0x23, 0x01, 0xFF}}
	for _, c := range []struct {
		at, size int
		want     uint64
		e        api.Errno
	}{
		{0, 1, 0xEF, api.OK},
		{0, 2, 0xCDEF, api.OK},
		{1, 2, 0xABCD, api.OK},
		{0, 3, 0xABCDEF, api.OK},
		{0, 4, 0x89ABCDEF, api.OK},
		{0, 7, 0x23456789ABCDEF, api.OK},
		{0, 8, 0x0123456789ABCDEF, api.OK},
		{1, 8, 0xFF0123456789ABCD, api.OK},
		{8, 1, 0xFF, api.OK},
		{7, 2, 0xFF01, api.OK},
		{8, 2, 0, api.ErrRange},
		{9, 1, 0, api.ErrRange},
		{2, 8, 0, api.ErrRange},
		{-1, 1, 0, api.ErrRange},
		{-1, 8, 0, api.ErrRange},
		{math.MinInt, 1, 0, api.ErrRange},
		{math.MaxInt, 1, 0, api.ErrRange},
		{math.MaxInt, 8, 0, api.ErrRange},
		{0, 0, 0, api.ErrArg},
		{9, 0, 0, api.ErrArg},
		{0, 9, 0, api.ErrArg},
		{0, -1, 0, api.ErrArg},
		{0, math.MaxInt, 0, api.ErrArg},
		{0, math.MinInt, 0, api.ErrArg},
		{10, 0, 0, api.ErrArg},
		{-1, 0, 0, api.ErrArg},
		{-1, 9, 0, api.ErrArg},
		{9, 9, 0, api.ErrArg},
		{math.MaxInt, math.MaxInt, 0, api.ErrArg},
	} {
		if n, e := Num(m, c.at, c.size); n != c.want || e != c.e {
			t.Errorf("Num(%d, %d) = %x, %d, not %x, %d", c.at, c.size, n, e, c.want, c.e)
		}
	}
}

func TestPutNum(t *testing.T) {
	for _, size := range sizes() {
		m := counted(size)
		was := bytes.Clone(m.Bytes)
		for _, at := range edges(size) {
			for _, n := range []int{math.MinInt, -1, 0, 1, 2, 3, 4, 5, 6, 7, 8, 9, 16, math.MaxInt} {
				for _, x := range []uint64{0, 1, 255, 256, 258, sample, math.MaxUint64} {
					got, e := PutNum(m, at, n, x)
					switch {
					case n < 1 || n > 8:
						if e != api.ErrArg {
							t.Fatalf("PutNum(%d, %d) into %d bytes: %d", at, n, size, e)
						}
						isAs(t, "PutNum of a size that cannot be", got, was)
					case !there(size, at, n):
						if e != api.ErrRange {
							t.Fatalf("PutNum(%d, %d) into %d bytes: %d", at, n, size, e)
						}
						isAs(t, "PutNum, refused", got, was)
					default:
						if e != api.OK {
							t.Fatalf("PutNum(%d, %d) into %d bytes: %d", at, n, size, e)
						}
						isAs(t, "PutNum", got, with(was, at, bytesOf(x, n)))
					}
					isAs(t, "handed in", m, was)
				}
			}
		}
	}
}

// TestNoMemory: one that no call made has no bytes, and nothing but nothing can be put there.
func TestNoMemory(t *testing.T) {
	var m api.Mem
	if b, e := Get(m, 0, 0); e != api.OK || len(b) != 0 {
		t.Errorf("Get: %x, %d", b, e)
	}
	if b, e := Get(m, 0, 1); e != api.ErrRange || len(b) != 0 {
		t.Errorf("Get: %x, %d", b, e)
	}
	if got, e := Put(m, 0, nil); e != api.OK || len(got.Bytes) != 0 {
		t.Errorf("Put: %x, %d", got.Bytes, e)
	}
	if got, e := Put(m, 0, []byte{1}); e != api.ErrRange || len(got.Bytes) != 0 {
		t.Errorf("Put: %x, %d", got.Bytes, e)
	}
	if n, e := Num(m, 0, 1); e != api.ErrRange || n != 0 {
		t.Errorf("Num: %x, %d", n, e)
	}
	if n, e := Num(m, 0, 0); e != api.ErrArg || n != 0 {
		t.Errorf("Num: %x, %d", n, e)
	}
	if got, e := PutNum(m, 0, 1, 1); e != api.ErrRange || len(got.Bytes) != 0 {
		t.Errorf("PutNum: %x, %d", got.Bytes, e)
	}
}

// P4.3

func TestPutIsGot(t *testing.T) {
	for _, size := range []int{0, 1, 2, 9, 17} {
		m := counted(size)
		for at := 0; at <= size; at++ {
			for n := 0; n <= size-at; n++ {
				b := bytes.Repeat([]byte{0xE7}, n)
				now, e := Put(m, at, b)
				if got, f := Get(now, at, n); e != api.OK || f != api.OK || !bytes.Equal(got, b) {
					t.Fatalf("%d bytes at %d of %d: %x, %d, %d", n, at, size, got, e, f)
				}
				stays(t, m, now, at, n)
			}
		}
	}
}

func TestPutNumIsGot(t *testing.T) {
	for _, size := range []int{1, 8, 9, 17, 8192} {
		m := counted(size)
		for _, at := range []int{0, 1, size / 2, size - 8, size - 1} {
			for n := 1; n <= 8 && at >= 0 && at <= size-n; n++ {
				for _, x := range []uint64{0, 1, 128, 255, 256, 65535, 1 << 31, 1 << 56, 1 << 63, sample, math.MaxUint64} {
					now, e := PutNum(m, at, n, x)
					want := x
					if n < 8 {
						want %= 1 << (8 * n)
					}
					if got, f := Num(now, at, n); e != api.OK || f != api.OK || got != want {
						t.Fatalf("%x of %d bytes at %d of %d: %x, %d, %d", x, n, at, size, got, e, f)
					}
					stays(t, m, now, at, n)
				}
			}
		}
	}
}

// stays fails, unless all but n bytes from at on are what they were, as Get tells them.
func stays(t *testing.T, was, now api.Mem, at, n int) {
	t.Helper()
	if len(now.Bytes) != len(was.Bytes) || !Check(now) {
		t.Fatalf("there were %d bytes, and are %d", len(was.Bytes), len(now.Bytes))
	}
	end := at + n
	for _, c := range []struct{ from, n int }{{0, at}, {end, len(was.Bytes) - end}} {
		old, e := Get(was, c.from, c.n)
		got, f := Get(now, c.from, c.n)
		if e != api.OK || f != api.OK || !bytes.Equal(old, got) {
			t.Fatalf("%d bytes at %d are put, and %d from %d on are others: %d, %d", n, at, c.n, c.from, e, f)
		}
	}
}

// TestManyPuts: one put behind another, over one another, against bytes that are changed in place.
func TestManyPuts(t *testing.T) {
	m, _ := New(64)
	plain, x := make([]byte, 64), uint64(1)
	for range 5000 {
		x = x*6364136223846793005 + 1442695040888963407
		at, n := int(x>>33%80)-8, int(x>>45%10)
		b := bytesOf(x, 8)[:min(n, 8)]
		var e api.Errno
		if x>>60%2 == 0 {
			m, e = Put(m, at, b)
			n = len(b)
		} else {
			m, e = PutNum(m, at, n, x)
		}
		if (e == api.OK) != (there(64, at, n) && (n > 0 || x>>60%2 == 0) && n < 9) {
			t.Fatalf("%d bytes at %d: %d", n, at, e)
		}
		if e == api.OK {
			copy(plain[at:], b)
		}
		isAs(t, "many", m, plain)
	}
}

// R3: what is handed in is not changed, and answers share no memory with it, nor with one another.

func TestNothingShared(t *testing.T) {
	m, b := counted(16), []byte{1, 2, 3}
	was := bytes.Clone(m.Bytes)
	answers := func() [][]byte {
		got, _ := Get(m, 0, 16)
		none, _ := Put(m, 16, nil)
		first, _ := Put(m, 0, nil)
		some, _ := Put(m, 4, b)
		all, _ := Put(m, 0, was)
		behind, _ := Put(m, 15, b)
		one, _ := PutNum(m, 0, 8, sample)
		size, _ := PutNum(m, 0, 9, sample)
		place, _ := PutNum(m, 16, 1, sample)
		return [][]byte{got, none.Bytes, first.Bytes, some.Bytes, all.Bytes, behind.Bytes, one.Bytes, size.Bytes, place.Bytes}
	}
	want := answers()
	for i, l := range answers() {
		clear(l[:cap(l)])
		isAs(t, "handed in", m, was)
		if !bytes.Equal(b, []byte{1, 2, 3}) {
			t.Fatalf("answer %d: the bytes that were put are %x", i, b)
		}
		for j, again := range answers() {
			if !bytes.Equal(again, want[j]) {
				t.Fatalf("answer %d is told by answer %d", j, i)
			}
		}
	}
	great := tooGreat()[0]
	got, _ := Put(great, 0, nil)
	clear(got.Bytes)
	isAs(t, "one that does not Check", great, tooGreat()[0].Bytes)
	one, _ := New(4)
	two, _ := New(4)
	one.Bytes[0] = 1
	if two.Bytes[0] != 0 {
		t.Error("two memories are one")
	}
}

// TestRoom: what room stands behind a list's end is nobody's, and stays as it was.
func TestRoom(t *testing.T) {
	long := []byte{1, 2, 3, 4, 5, 6}
	m := api.Mem{Bytes: long[:4]}
	if b, e := Get(m, 3, 2); e != api.ErrRange || len(b) != 0 {
		t.Errorf("Get: %x, %d", b, e)
	}
	if n, e := Num(m, 2, 4); e != api.ErrRange || n != 0 {
		t.Errorf("Num: %x, %d", n, e)
	}
	got, e := Put(m, 4, []byte{9})
	if e != api.ErrRange {
		t.Errorf("Put: %d", e)
	}
	isAs(t, "Put, refused", got, []byte{1, 2, 3, 4})
	got, e = Put(m, 1, []byte{7, 8, 9}[:2])
	if e != api.OK {
		t.Errorf("Put: %d", e)
	}
	isAs(t, "Put", got, []byte{1, 7, 8, 4})
	b, _ := Get(m, 0, 2)
	_ = append(b, 99)
	if !bytes.Equal(long, []byte{1, 2, 3, 4, 5, 6}) {
		t.Errorf("the list is %v", long)
	}
}

// TestPutOfItself: what is put may be a part of the memory itself.
func TestPutOfItself(t *testing.T) {
	m := counted(8)
	was := bytes.Clone(m.Bytes)
	for at := range 4 {
		got, e := Put(m, at, m.Bytes[2:6])
		if e != api.OK {
			t.Errorf("at %d: %d", at, e)
		}
		isAs(t, "of itself", got, with(was, at, was[2:6]))
		isAs(t, "handed in", m, was)
	}
}
