package queue

import (
	"bytes"
	"fmt"
	"math"
	"reflect"
	"slices"
	"testing"

	"phonograph/api"
)

// layout is where things lie in a ring of n descriptors, from its base on, counted by hand.
type layout struct {
	n, avail, heads, used, entries, size int
}

// layouts are those of all rings that there are.
func layouts() []layout {
	return []layout{
		{1, 18, 20, 26, 28, 36},
		{2, 34, 36, 42, 44, 60},
		{4, 66, 68, 78, 80, 112},
		{8, 130, 132, 150, 152, 216},
		{16, 258, 260, 294, 296, 424},
	}
}

// layoutOf answers that of a ring of n.
func layoutOf(n int) layout {
	for _, r := range layouts() {
		if r.n == n {
			return r
		}
	}
	return layout{}
}

// noSizes are numbers of descriptors that no ring has.
func noSizes() []int {
	return []int{
		0, 3, 5, 6, 7, 9, 12, 15, 17, 18, 24, 31, 32, 64, 256, 65536, 1 << 32, 1<<32 + 4, 1 << 60, math.MaxInt,
		-1, -2, -4, -8, -16, -1 << 32, math.MinInt, math.MinInt + 4,
	}
}

// counted answers a memory of n bytes, each unlike its neighbours.
func counted(n int) api.Mem {
	b := make([]byte, n)
	for i := range b {
		b[i] = byte(37*i + i/256 + 1)
	}
	return api.Mem{Bytes: b}
}

// filled answers a memory of n bytes of one kind.
func filled(n int, c byte) api.Mem { return api.Mem{Bytes: bytes.Repeat([]byte{c}, n)} }

// low answers a number from bytes, the lowest one first.
func low(b []byte) uint64 {
	var n uint64
	for i := len(b) - 1; i >= 0; i-- {
		n = n*256 + uint64(b[i])
	}
	return n
}

// lay writes the size lowest bytes of a number over those of a list, the lowest one first.
func lay(b []byte, at, size int, n uint64) {
	for i := range size {
		b[at+i] = byte(n % 256)
		n /= 256
	}
}

// layDesc writes the i-th descriptor of a ring over bytes.
func layDesc(b []byte, base, i int, d api.Desc) {
	at := base + 16*i
	lay(b, at, 8, d.Addr)
	lay(b, at+8, 4, uint64(d.Len))
	lay(b, at+12, 2, uint64(d.Flags))
	lay(b, at+14, 2, uint64(d.Next))
}

// descAt reads the i-th descriptor of a ring from bytes.
func descAt(b []byte, base, i int) api.Desc {
	at := base + 16*i
	return api.Desc{Addr: low(b[at : at+8]), Len: uint32(low(b[at+8 : at+12])), Flags: uint16(low(b[at+12 : at+14])), Next: uint16(low(b[at+14 : at+16]))}
}

// layAvail writes over bytes what is available: a head at the place i modulo n, and the index.
func layAvail(b []byte, base, n int, i uint16, head int, index uint16) {
	r := layoutOf(n)
	lay(b, base+r.heads+2*(int(i)%n), 2, uint64(head))
	lay(b, base+r.avail, 2, uint64(index))
}

// layUsed writes over bytes what is used: one at the place i modulo n, and the index.
func layUsed(b []byte, base, n int, i uint16, u api.Used, index uint16) {
	r := layoutOf(n)
	at := base + r.entries + 8*(int(i)%n)
	lay(b, at, 4, uint64(u.ID))
	lay(b, at+4, 4, uint64(u.Len))
	lay(b, base+r.used, 2, uint64(index))
}

// isAs fails, unless a memory has these bytes.
func isAs(t *testing.T, what string, got api.Mem, want []byte) {
	t.Helper()
	if bytes.Equal(got.Bytes, want) {
		return
	}
	at := 0
	for at < len(want) && at < len(got.Bytes) && got.Bytes[at] == want[at] {
		at++
	}
	t.Fatalf("%s: %d bytes, not %d; unlike from %d on: %.16x, not %.16x", what, len(got.Bytes), len(want), at, got.Bytes[at:], want[at:])
}

// copyOf answers a queue that has no list in common with the one that it was copied from; none of its lists is nil.
func copyOf(q api.Queue) api.Queue {
	q.Free = append([]int{}, q.Free...)
	l := []api.Chain{}
	for _, c := range q.Chains {
		c.Descs = append([]int{}, c.Descs...)
		l = append(l, c)
	}
	q.Chains = l
	return q
}

// isQueue fails, unless a queue is as this one, in all its fields.
func isQueue(t *testing.T, what string, got, want api.Queue) {
	t.Helper()
	if !reflect.DeepEqual(copyOf(got), copyOf(want)) {
		t.Fatalf("%s: %+v, not %+v", what, got, want)
	}
}

// upFrom answers the numbers from low below high, by steps.
func upFrom(low, high, step int) []int {
	l := []int{}
	for i := low; i < high; i += step {
		l = append(l, i)
	}
	return l
}

// chainOf answers a chain of descriptors, whose head is the first one.
func chainOf(room int, descs ...int) api.Chain {
	return api.Chain{Head: descs[0], Descs: descs, Room: room}
}

// queuesOf are queues of n: with all free, with some in chains, in order and not, and with none free.
func queuesOf(n int) []api.Queue {
	l := []api.Queue{{Size: n, Free: upFrom(0, n, 1)}}
	down := upFrom(0, n, 1)
	slices.Reverse(down)
	l = append(l, api.Queue{Size: n, Chains: []api.Chain{chainOf(100, down...)}})
	singles := api.Queue{Size: n}
	for i := range n {
		singles.Chains = append(singles.Chains, chainOf(i, i))
	}
	l = append(l, singles)
	if n < 2 {
		return l
	}
	back := copyOf(singles)
	slices.Reverse(back.Chains)
	odd := api.Queue{Size: n, Free: upFrom(0, n, 2), Chains: []api.Chain{chainOf(0, upFrom(1, n, 2)...)}}
	l = append(l, back, odd)
	odds := api.Queue{Size: n, Free: upFrom(0, n, 2)}
	for i := n - 1; i > 0; i -= 2 {
		odds.Chains = append(odds.Chains, chainOf(1<<31-1-i, i))
	}
	l = append(l, odds)
	if n < 4 {
		return l
	}
	l = append(l,
		api.Queue{Size: n, Free: upFrom(4, n, 1), Chains: []api.Chain{chainOf(7, 2, 0), chainOf(1<<31-1, 3, 1)}},
		api.Queue{Size: n, Free: []int{1, n - 1}, Chains: []api.Chain{chainOf(9, append(upFrom(2, n-1, 1), 0)...)}},
		api.Queue{Size: n, Free: []int{0}, Chains: []api.Chain{chainOf(1, n-1), chainOf(0, upFrom(2, n-1, 1)...), chainOf(300, 1)}},
	)
	return l
}

// chance makes a function that answers numbers below one that it is handed, the same ones again for the same seed.
func chance(seed uint64) func(n int) int {
	x := seed*2862933555777941757 + 3037000493
	return func(n int) int {
		x = x*6364136223846793005 + 1442695040888963407
		return int(x >> 33 % uint64(n))
	}
}

// noRing is where no ring may be.
type noRing struct {
	m       api.Mem
	base, n int
}

// noRings are memories, places and sizes of which one, or several, are wrong.
func noRings() []noRing {
	var l []noRing
	for _, r := range layouts() {
		for _, base := range []int{0, 1, 2, 3, 4, 7, 100} {
			l = append(l, noRing{counted(base + r.size - 1), base, r.n})
		}
		for _, base := range []int{-1, -2, -16, -r.size, 600 - r.size + 1, 599, 600, 601, 8192, 1 << 32, math.MaxInt - r.size + 1, math.MaxInt, math.MinInt, math.MinInt + 600} {
			l = append(l, noRing{counted(600), base, r.n})
		}
		l = append(l, noRing{api.Mem{}, 0, r.n}, noRing{counted(8193), 0, r.n}, noRing{counted(8193), 8193 - r.size, r.n}, noRing{counted(10000), 16, r.n})
	}
	for _, n := range noSizes() {
		l = append(l, noRing{counted(8192), 0, n}, noRing{counted(8192), -1, n}, noRing{counted(8193), 0, n}, noRing{api.Mem{}, 0, n})
	}
	return l
}

// P8.1

// mayBe is P8.1's Check, done once more by counting.
func mayBe(q api.Queue) bool {
	if !slices.Contains([]int{1, 2, 4, 8, 16}, q.Size) || q.Base < 0 {
		return false
	}
	times := make(map[int]int)
	for i, x := range q.Free {
		if i > 0 && x <= q.Free[i-1] {
			return false
		}
		times[x]++
	}
	for _, c := range q.Chains {
		if len(c.Descs) == 0 || c.Head != c.Descs[0] || c.Room < 0 || c.Room > 2147483647 {
			return false
		}
		for _, x := range c.Descs {
			times[x]++
		}
	}
	for i := range q.Size {
		if times[i] != 1 {
			return false
		}
	}
	return len(times) == q.Size
}

// checks fails, unless Check answers this.
func checks(t *testing.T, what string, q api.Queue, want bool) {
	t.Helper()
	was := copyOf(q)
	if got := Check(q); got != want {
		t.Errorf("%s: %+v: %v", what, q, got)
	}
	isQueue(t, what+": handed in", q, was)
}

func TestCheckSize(t *testing.T) {
	for _, n := range []int{1, 2, 4, 8, 16} {
		checks(t, "a size", api.Queue{Size: n, Free: upFrom(0, n, 1)}, true)
		checks(t, "a size, all in a chain", api.Queue{Size: n, Chains: []api.Chain{chainOf(0, upFrom(0, n, 1)...)}}, true)
	}
	for _, n := range noSizes() {
		if n <= 65536 {
			checks(t, "no size", api.Queue{Size: n, Free: upFrom(0, n, 1)}, false)
		}
		for _, f := range []int{0, 1, 2, 4, 8, 16} {
			checks(t, "no size", api.Queue{Size: n, Free: upFrom(0, f, 1)}, false)
		}
	}
	for n := -3; n <= 40; n++ {
		for f := range 41 {
			q := api.Queue{Size: n, Free: upFrom(0, f, 1)}
			checks(t, "sizes and free ones", q, n == f && mayBe(q))
		}
	}
	checks(t, "a zero value", api.Queue{}, false)
}

func TestCheckBase(t *testing.T) {
	for _, base := range []int{0, 1, 2, 3, 4, 7, 8000, 8192, 8193, 1 << 31, 1 << 32, 1 << 62, math.MaxInt} {
		checks(t, "a base", api.Queue{Base: base, Size: 2, Free: []int{0, 1}}, true)
	}
	for _, base := range []int{-1, -2, -8192, -1 << 31, -1 << 32, -1 << 62, math.MinInt} {
		checks(t, "no base", api.Queue{Base: base, Size: 2, Free: []int{0, 1}}, false)
	}
}

// TestCheckIndices: whatever Avail and Last are, a queue may be.
func TestCheckIndices(t *testing.T) {
	for _, i := range []uint16{0, 1, 32768, 65535} {
		for _, j := range []uint16{0, 1, 32768, 65535} {
			checks(t, "indices", api.Queue{Size: 2, Free: []int{1}, Chains: []api.Chain{chainOf(0, 0)}, Avail: i, Last: j}, true)
		}
	}
}

func TestCheckLists(t *testing.T) {
	for _, r := range layouts() {
		for _, q := range queuesOf(r.n) {
			checks(t, "one that may be", q, true)
		}
	}
	for _, l := range [][]int{
		nil, {0}, {0, 1, 2}, {0, 1, 2, 2}, {0, 0, 1, 2, 3}, {0, 1, 1, 3}, {3, 2, 1, 0}, {0, 2, 1, 3}, {1, 0, 2, 3}, {0, 1, 3, 2}, {-1, 0, 1, 2}, {-1, 0, 1, 2, 3}, {1, 2, 3, 4}, {0, 1, 2, 4},
		{0, 1, 2, 3, 4}, {0, 1, 2, 3, math.MaxInt}, {math.MinInt, 0, 1, 2, 3}, {0, 1, 2, 1<<32 + 3}, {0, 0, 0, 0}, {3, 3, 3, 3}, {0, 1, 2, 3, 3}, {0, 1, 2, 3, 0},
	} {
		checks(t, "free ones", api.Queue{Size: 4, Free: l}, false)
	}
	for _, c := range [][]api.Chain{
		{chainOf(0, 1, 2)},
		{chainOf(0, 2), chainOf(0, 3), chainOf(0, 2)},
		{chainOf(0, 2, 3), chainOf(0, 3)},
		{chainOf(0, 2, 3, 2)},
		{chainOf(0, 2, 2)},
		{chainOf(0, 2)},
		{chainOf(0, 2, 4)},
		{chainOf(0, 2, 3, 4)},
		{chainOf(0, -1, 2)},
		{chainOf(0, 2, 3), chainOf(0, -1)},
		{chainOf(0, 2, 1<<32+3)},
		{chainOf(0, 2, math.MinInt)},
		{{}, chainOf(0, 2, 3)},
		{{Head: 2}, chainOf(0, 2, 3)},
		{chainOf(0, 2, 3), {}},
		{chainOf(0, 2, 3), {Descs: []int{}}},
		{{Head: 3, Descs: []int{2, 3}}},
		{{Head: 0, Descs: []int{2, 3}}},
		{{Head: -1, Descs: []int{2, 3}}},
		{{Head: 4, Descs: []int{2, 3}}},
		{{Head: 1<<32 + 2, Descs: []int{2, 3}}},
		{chainOf(0, 2), {Head: 2, Descs: []int{3}}},
	} {
		checks(t, "chains", api.Queue{Size: 4, Free: []int{0, 1}, Chains: c}, false)
	}
}

func TestCheckRoom(t *testing.T) {
	for _, room := range []int{0, 1, 2, 65536, 1<<31 - 2, 1<<31 - 1} {
		checks(t, "a room", api.Queue{Size: 2, Chains: []api.Chain{chainOf(5, 0), chainOf(room, 1)}}, true)
		checks(t, "a room", api.Queue{Size: 2, Chains: []api.Chain{chainOf(room, 1), chainOf(5, 0)}}, true)
	}
	for _, room := range []int{-1, -2, -1 << 31, -1 << 32, math.MinInt, 1 << 31, 1<<31 + 1, 1<<32 - 1, 1 << 32, 1 << 62, math.MaxInt} {
		checks(t, "no room", api.Queue{Size: 2, Chains: []api.Chain{chainOf(5, 0), chainOf(room, 1)}}, false)
		checks(t, "no room", api.Queue{Size: 2, Chains: []api.Chain{chainOf(room, 1), chainOf(5, 0)}}, false)
	}
}

// listsOf answers all lists of at most so many numbers of some.
func listsOf(most int, some []int) [][]int {
	l := [][]int{nil}
	last := l
	for range most {
		var next [][]int
		for _, a := range last {
			for _, x := range some {
				next = append(next, append(slices.Clone(a), x))
			}
		}
		l, last = append(l, next...), next
	}
	return l
}

// TestCheckAll: all queues of 2, of at most three free ones and two chains of two, of numbers around those that there are.
func TestCheckAll(t *testing.T) {
	var one []api.Chain
	for _, l := range listsOf(2, []int{-1, 0, 1, 2}) {
		for head := -1; head <= 2; head++ {
			one = append(one, api.Chain{Head: head, Descs: l})
		}
	}
	chains := [][]api.Chain{nil}
	for _, a := range one {
		chains = append(chains, []api.Chain{a})
		for _, b := range one {
			chains = append(chains, []api.Chain{a, b})
		}
	}
	n := 0
	for _, free := range listsOf(3, []int{-1, 0, 1, 2}) {
		for _, c := range chains {
			q := api.Queue{Size: 2, Free: free, Chains: c}
			want := mayBe(q)
			if Check(q) != want {
				t.Fatalf("%+v: %v", q, !want)
			}
			if want {
				n++
			}
		}
	}
	// All free; one free, and the other a chain; two chains of one in either order; one of two in either order.
	if n != 1+2+2+2 {
		t.Errorf("%d queues of 2 may be", n)
	}
}

func TestNew(t *testing.T) {
	for _, r := range layouts() {
		for _, base := range []int{0, 1, 2, 3, 4, 5, 6, 7, 8, 13, 18, 100} {
			for _, more := range []int{0, 1, 2, 90} {
				for _, m := range []api.Mem{counted(base + r.size + more), filled(base+r.size+more, 255), filled(base+r.size+more, 0)} {
					what := fmt.Sprintf("New of %d at %d of %d bytes", r.n, base, len(m.Bytes))
					was := bytes.Clone(m.Bytes)
					want := bytes.Clone(was)
					clear(want[base : base+r.size])
					got, q, e := New(m, base, r.n)
					if e != api.OK || !Check(q) {
						t.Fatalf("%s: %d", what, e)
					}
					isAs(t, what, got, want)
					isQueue(t, what, q, api.Queue{Base: base, Size: r.n, Free: upFrom(0, r.n, 1)})
					isAs(t, what+": handed in", m, was)
				}
			}
		}
		_, q, e := New(counted(8192), 8192-r.size, r.n)
		if e != api.OK || q.Base != 8192-r.size {
			t.Errorf("New of %d at the end of all memory: %d", r.n, e)
		}
	}
}

func TestNewRefused(t *testing.T) {
	for _, s := range noRings() {
		what := fmt.Sprintf("New of %d at %d of %d bytes", s.n, s.base, len(s.m.Bytes))
		was := bytes.Clone(s.m.Bytes)
		got, q, e := New(s.m, s.base, s.n)
		if e != api.ErrRing {
			t.Fatalf("%s: %d", what, e)
		}
		isAs(t, what, got, was)
		isQueue(t, what, q, api.Queue{})
		isAs(t, what+": handed in", s.m, was)
	}
}

// addCame fails, unless Add comes to this error, with all as it was.
func addCame(t *testing.T, what string, m api.Mem, q api.Queue, l []api.Buf, err api.Errno) {
	t.Helper()
	was, wasQ, wasL := bytes.Clone(m.Bytes), copyOf(q), slices.Clone(l)
	got, gotQ, head, e := Add(m, q, l)
	if e != err || head != 0 {
		t.Fatalf("%s: %d, %d, not %d", what, head, e, err)
	}
	isAs(t, what, got, was)
	isQueue(t, what, gotQ, wasQ)
	isAs(t, what+": handed in", m, was)
	isQueue(t, what+": handed in", q, wasQ)
	if !slices.Equal(l, wasL) {
		t.Fatalf("%s: the parts that were handed in were changed", what)
	}
}

// pollCame fails, unless Poll comes to this queue, these numbers and this error.
func pollCame(t *testing.T, what string, m api.Mem, q, want api.Queue, head, n int, err api.Errno) {
	t.Helper()
	was, wasQ := bytes.Clone(m.Bytes), copyOf(q)
	got, h, k, e := Poll(m, q)
	if e != err || h != head || k != n {
		t.Fatalf("%s: %d, %d, %d, not %d, %d, %d", what, h, k, e, head, n, err)
	}
	isQueue(t, what, got, want)
	isAs(t, what+": handed in", m, was)
	isQueue(t, what+": handed in", q, wasQ)
}

// TestRingFirst: Add and Poll answer ErrRing ahead of all else, where there may be no ring, and of a queue that does not Check.
func TestRingFirst(t *testing.T) {
	parts := [][]api.Buf{nil, {{}}, {{At: 0, Len: 1}}, {{At: 0, Len: 1}, {At: 0, Len: 0}}, {{At: -1, Len: 1}}, slices.Repeat([]api.Buf{{Len: 1, Write: true}}, 17)}
	for _, s := range noRings() {
		qs := []api.Queue{{Base: s.base, Size: s.n}}
		if layoutOf(s.n).size > 0 {
			qs = queuesOf(s.n)
		}
		for _, q := range qs {
			q.Base, q.Avail, q.Last = s.base, 3, 5
			what := fmt.Sprintf("a ring of %d at %d of %d bytes", s.n, s.base, len(s.m.Bytes))
			for _, l := range parts[:3] {
				addCame(t, what+": Add", s.m, q, l, api.ErrRing)
			}
			pollCame(t, what+": Poll", s.m, q, q, 0, 0, api.ErrRing)
		}
	}
	for _, q := range []api.Queue{
		{}, {Size: 4}, {Size: 4, Free: []int{0, 1, 2}}, {Size: 4, Free: []int{3, 2, 1, 0}}, {Size: 4, Free: []int{0, 1, 2, 3, 3}}, {Size: 4, Free: []int{0, 1, 2, 4}},
		{Size: 3, Free: []int{0, 1, 2}}, {Base: -1, Size: 4, Free: []int{0, 1, 2, 3}}, {Size: 4, Free: []int{0, 1, 2, 3}, Chains: []api.Chain{{}}},
		{Size: 4, Free: []int{0, 1, 2}, Chains: []api.Chain{{Head: 2, Descs: []int{3}}}}, {Size: 4, Free: []int{0, 1, 2}, Chains: []api.Chain{chainOf(-1, 3)}},
		{Size: 4, Free: []int{0, 1, 2}, Chains: []api.Chain{chainOf(1<<31, 3)}}, {Size: 4, Free: []int{0, 1}, Chains: []api.Chain{chainOf(1, 3), chainOf(1, 3)}},
	} {
		for _, last := range []uint16{0, 1, 65535} {
			q.Avail, q.Last = last, last
			m := counted(400)
			layUsed(m.Bytes, 0, 4, last, api.Used{ID: 3, Len: 1}, last+1)
			for _, l := range parts {
				addCame(t, "Add to one that may not be", m, q, l, api.ErrRing)
			}
			pollCame(t, "Poll of one that may not be", m, q, q, 0, 0, api.ErrRing)
			m = counted(8193)
			addCame(t, "Add to one that may not be, in too much", m, q, parts[2], api.ErrRing)
			pollCame(t, "Poll of one that may not be, in too much", m, q, q, 0, 0, api.ErrRing)
		}
	}
}

// P8.2

// TestExample: the chapter's.
func TestExample(t *testing.T) {
	m, q, e := New(counted(200), 0, 4)
	m, q, head, f := Add(m, q, []api.Buf{{At: 150, Len: 4}, {At: 160, Len: 8, Write: true}})
	if e != api.OK || f != api.OK || head != 0 {
		t.Fatalf("%d; %d, %d", head, e, f)
	}
	isQueue(t, "the example", q, api.Queue{Size: 4, Free: []int{2, 3}, Avail: 1, Chains: []api.Chain{chainOf(8, 0, 1)}})
	want := counted(200).Bytes
	clear(want[:112])
	copy(want, []byte{150, 0, 0, 0, 0, 0, 0, 0, 4, 0, 0, 0, 1, 0, 1, 0})
	copy(want[16:], []byte{160, 0, 0, 0, 0, 0, 0, 0, 8, 0, 0, 0, 2, 0, 0, 0})
	want[66] = 1
	isAs(t, "the example", m, want)
}

// added answers what P8.2 asks for of parts that may be handed over.
func added(m api.Mem, q api.Queue, l []api.Buf) ([]byte, api.Queue, int) {
	b := bytes.Clone(m.Bytes)
	q = copyOf(q)
	these := slices.Clone(q.Free[:len(l)])
	room := 0
	for i, p := range l {
		d := api.Desc{Addr: uint64(p.At), Len: uint32(p.Len)}
		if i != len(l)-1 {
			d.Flags, d.Next = 1, uint16(these[i+1])
		}
		if p.Write {
			d.Flags |= 2
			room += p.Len
		}
		layDesc(b, q.Base, these[i], d)
	}
	layAvail(b, q.Base, q.Size, q.Avail, these[0], q.Avail+1)
	q.Free = q.Free[len(l):]
	q.Chains = append(q.Chains, api.Chain{Head: these[0], Descs: these, Room: room})
	q.Avail++
	return b, q, these[0]
}

// adds fails, unless parts are handed over as P8.2 has it.
func adds(t *testing.T, what string, m api.Mem, q api.Queue, l []api.Buf) (api.Mem, api.Queue) {
	t.Helper()
	want, wantQ, head := added(m, q, l)
	was, wasQ, wasL := bytes.Clone(m.Bytes), copyOf(q), slices.Clone(l)
	got, gotQ, h, e := Add(m, q, l)
	if e != api.OK || h != head || !Check(gotQ) {
		t.Fatalf("%s: %d, %d, not %d", what, h, e, head)
	}
	isAs(t, what, got, want)
	isQueue(t, what, gotQ, wantQ)
	isAs(t, what+": handed in", m, was)
	isQueue(t, what+": handed in", q, wasQ)
	if !slices.Equal(l, wasL) {
		t.Fatalf("%s: the parts that were handed in were changed", what)
	}
	return got, gotQ
}

// partsOf answers n parts, each unlike the others; of those that may be written the pattern has a bit.
func partsOf(n, pattern int) []api.Buf {
	var l []api.Buf
	for i := range n {
		l = append(l, api.Buf{At: 430 + 9*i, Len: 1 + (5*i+pattern)%23, Write: pattern>>i%2 == 1})
	}
	return l
}

// TestAdd: each number of parts that there is room for, those that may be written and those that may not in each order, in queues of each kind.
func TestAdd(t *testing.T) {
	for _, r := range layouts() {
		for _, q := range queuesOf(r.n) {
			for _, base := range []int{0, 3, 6} {
				q.Base = base
				for n := 1; n <= len(q.Free); n++ {
					for pattern := 0; pattern < 1<<n; pattern += 1 + 1<<n/40 {
						q.Avail, q.Last = uint16(65530+pattern), uint16(7*pattern)
						m := filled(600+base, byte(0xA5+pattern))
						adds(t, fmt.Sprintf("Add of %d, %b", n, pattern), m, q, partsOf(n, pattern))
					}
				}
			}
		}
	}
}

// TestAddAll: one behind the other, until none is free, from places on at which Avail turns round.
func TestAddAll(t *testing.T) {
	for _, r := range layouts() {
		for _, avail := range []uint16{0, 1, 15, 16, 32767, 65520, 65534, 65535} {
			for each := 1; each <= r.n; each++ {
				m := counted(700)
				q := api.Queue{Base: 1, Size: r.n, Free: upFrom(0, r.n, 1), Avail: avail, Last: avail}
				for k := range r.n / each {
					m, q = adds(t, "Add until none is free", m, q, partsOf(each, 5*k+1))
				}
				if len(q.Free) != r.n%each || q.Avail != avail+uint16(r.n/each) {
					t.Fatalf("%d of %d, each time: %+v", each, r.n, q)
				}
				if n := len(q.Free) + 1; n <= r.n {
					addCame(t, "fewer are free", m, q, partsOf(n, 0), api.ErrFull)
				}
			}
		}
	}
}

// TestAddTurns: a new one's index is one more modulo 2^16, whatever stood there.
func TestAddTurns(t *testing.T) {
	m := filled(300, 0x5A)
	q := api.Queue{Size: 2, Free: []int{0, 1}, Avail: 65535, Last: 65535}
	m, q = adds(t, "at 65535", m, q, []api.Buf{{At: 299, Len: 1}})
	if q.Avail != 0 || low(m.Bytes[34:36]) != 0 || low(m.Bytes[38:40]) != 0 {
		t.Errorf("%d, %x", q.Avail, m.Bytes[34:40])
	}
	m, q = adds(t, "at 0", m, q, []api.Buf{{At: 298, Len: 2, Write: true}})
	if q.Avail != 1 || low(m.Bytes[34:36]) != 1 || low(m.Bytes[36:38]) != 1 {
		t.Errorf("%d, %x", q.Avail, m.Bytes[34:40])
	}
}

// goodParts are parts of n bytes of memory that may be handed over, up to its edges.
func goodParts(n int) []api.Buf {
	return []api.Buf{{At: 0, Len: 1}, {At: 0, Len: n}, {At: 1, Len: n - 1}, {At: n - 1, Len: 1}, {At: n - 2, Len: 2}, {At: n / 2, Len: n - n/2}, {At: 5, Len: n - 10}}
}

// badParts are parts that may not.
func badParts(n int) []api.Buf {
	return []api.Buf{
		{At: 0, Len: 0}, {At: 5, Len: 0}, {At: n - 1, Len: 0}, {At: n, Len: 0}, {At: 0, Len: -1}, {At: 5, Len: -1}, {At: 5, Len: -5}, {At: n, Len: -1}, {At: n + 5, Len: -6}, {At: 5, Len: math.MinInt},
		{At: 5, Len: math.MaxInt}, {At: 5, Len: 1 << 32}, {At: 5, Len: 1<<32 + 1}, {At: 5, Len: -1<<32 + 1}, {At: 0, Len: n + 1}, {At: 1, Len: n}, {At: n - 1, Len: 2}, {At: n, Len: 1}, {At: n + 1, Len: 1},
		{At: -1, Len: 1}, {At: -1, Len: 2}, {At: -1, Len: n + 1}, {At: -5, Len: 6}, {At: -n, Len: n + 1}, {At: math.MinInt, Len: 1}, {At: math.MinInt, Len: math.MinInt}, {At: math.MinInt, Len: math.MaxInt}, {At: -1, Len: -1},
		{At: math.MaxInt, Len: 1}, {At: math.MaxInt, Len: math.MaxInt}, {At: math.MaxInt - 1, Len: 5}, {At: 1 << 32, Len: 1}, {At: 1<<32 + 5, Len: 1}, {At: -1<<32 + 5, Len: 1}, {At: 8192, Len: 1}, {At: 8191, Len: 1},
	}
}

func TestAddEdges(t *testing.T) {
	for _, r := range layouts() {
		for _, size := range []int{r.size, r.size + 1, 500, 8192} {
			m := counted(size)
			if size < r.size {
				continue
			}
			q := api.Queue{Size: r.n, Free: upFrom(0, r.n, 1), Avail: 9}
			for _, p := range goodParts(size) {
				for _, write := range []bool{false, true} {
					p.Write = write
					adds(t, fmt.Sprintf("%v of %d bytes", p, size), m, q, []api.Buf{p})
					adds(t, fmt.Sprintf("%v of %d bytes, as often as may be", p, size), m, q, slices.Repeat([]api.Buf{p}, r.n))
				}
			}
		}
	}
	got, q, _, e := Add(counted(8192), api.Queue{Size: 16, Free: upFrom(0, 16, 1)}, slices.Repeat([]api.Buf{{Len: 8192, Write: true}}, 16))
	if e != api.OK || q.Chains[0].Room != 16*8192 || len(got.Bytes) != 8192 {
		t.Errorf("all memory, 16 times: %+v, %d", q, e)
	}
}

// TestAddArg: one part that may not be handed over, wherever it stands among others, and no part, or more than Size.
func TestAddArg(t *testing.T) {
	for _, r := range layouts() {
		m := counted(600)
		for _, q := range queuesOf(r.n) {
			q.Avail, q.Last = 65535, 65534
			addCame(t, "no part, nil", m, q, nil, api.ErrArg)
			addCame(t, "no part", m, q, []api.Buf{}, api.ErrArg)
			addCame(t, "one more than Size", m, q, partsOf(r.n+1, 3), api.ErrArg)
			addCame(t, "many more than Size", m, q, slices.Repeat([]api.Buf{{Len: 1}}, 300), api.ErrArg)
			addCame(t, "as many more as turn round", m, q, slices.Repeat([]api.Buf{{Len: 1}}, 65537), api.ErrArg)
			for _, p := range badParts(600) {
				if p.At >= 0 && p.Len > 0 && p.At < 600 && p.Len <= 600-p.At {
					t.Fatalf("%v may be", p)
				}
				for _, write := range []bool{false, true} {
					p.Write = write
					for n := 1; n <= r.n+1; n += 1 + n/3 {
						for at := range n {
							l := partsOf(n, 5)
							l[at] = p
							addCame(t, fmt.Sprintf("%v, the %d-th of %d", p, at, n), m, q, l, api.ErrArg)
						}
					}
				}
			}
		}
	}
}

// TestAddBeyond: what lies within one memory lies beyond a smaller one, and room behind a memory's end is nobody's.
func TestAddBeyond(t *testing.T) {
	for size := 112; size < 130; size++ {
		m := api.Mem{Bytes: counted(400).Bytes[:size]}
		for at := 100; at < 135; at++ {
			for n := 1; n < 30; n++ {
				q := api.Queue{Size: 4, Free: []int{1, 3}, Chains: []api.Chain{chainOf(1, 2), chainOf(0, 0)}}
				if at+n <= size {
					adds(t, "within", m, q, []api.Buf{{At: at, Len: n}})
				} else {
					addCame(t, "beyond", m, q, []api.Buf{{At: at, Len: n}}, api.ErrArg)
				}
			}
		}
	}
}

func TestAddFull(t *testing.T) {
	for _, r := range layouts() {
		for _, q := range queuesOf(r.n) {
			for _, avail := range []uint16{0, 65535} {
				q.Avail = avail
				m := counted(700)
				for n := len(q.Free) + 1; n <= r.n; n++ {
					addCame(t, fmt.Sprintf("%d parts for %d", n, len(q.Free)), m, q, partsOf(n, n), api.ErrFull)
				}
			}
		}
	}
}

// P8.3

// polled answers what P8.3 asks for of a queue that may be.
func polled(m api.Mem, q api.Queue) (api.Queue, int, int, api.Errno) {
	q = copyOf(q)
	r := layoutOf(q.Size)
	index := int(low(m.Bytes[q.Base+r.used : q.Base+r.used+2]))
	ahead := (index - int(q.Last) + 65536) % 65536
	if ahead == 0 {
		return q, 0, 0, api.ErrNone
	}
	if ahead > len(q.Chains) {
		q.Last = uint16(index)
		return q, 0, 0, api.ErrUsed
	}
	at := q.Base + r.entries + 8*(int(q.Last)%q.Size)
	id, n := low(m.Bytes[at:at+4]), low(m.Bytes[at+4:at+8])
	q.Last = uint16((int(q.Last) + 1) % 65536)
	for i, c := range q.Chains {
		if uint64(c.Head) == id {
			if n > uint64(c.Room) {
				return q, 0, 0, api.ErrUsed
			}
			q.Chains = append(q.Chains[:i:i], q.Chains[i+1:]...)
			for j := range q.Size {
				if slices.Contains(c.Descs, j) {
					q.Free = append(q.Free, j)
				}
			}
			slices.Sort(q.Free)
			return q, c.Head, int(n), api.OK
		}
	}
	return q, 0, 0, api.ErrUsed
}

// polls fails, unless a Poll comes to what P8.3 asks for, and to a queue that Checks.
func polls(t *testing.T, what string, m api.Mem, q api.Queue) api.Errno {
	t.Helper()
	want, head, n, err := polled(m, q)
	pollCame(t, what, m, q, want, head, n, err)
	if !Check(want) {
		t.Fatalf("%s: %+v may not be", what, want)
	}
	return err
}

// lens are how much may be said to be written, around what there is room for.
func lens(room int) []uint32 {
	l := []uint32{0, 1, 255, 65536, 1<<31 - 1, 1 << 31, math.MaxUint32}
	return append(l, uint32(room-1), uint32(room), uint32(room+1))
}

// TestPoll: each used one that a device may tell, at each place ahead of Last, in queues of each kind.
func TestPoll(t *testing.T) {
	seen := make(map[api.Errno]int)
	for _, r := range layouts() {
		for _, q := range queuesOf(r.n) {
			for _, last := range []uint16{0, 1, 32768, 65534, 65535} {
				q.Last, q.Base = last, int(last)%3
				for id := range r.n + 3 {
					room := 0
					for _, c := range q.Chains {
						if c.Head == id {
							room = c.Room
						}
					}
					for k, n := range lens(room) {
						m := filled(600, byte(k))
						ahead := 1 + (id+k)%max(len(q.Chains), 1)
						layUsed(m.Bytes, q.Base, r.n, last, api.Used{ID: uint32(id), Len: n}, last+uint16(ahead))
						seen[polls(t, fmt.Sprintf("%d of %d, %d ahead of %d", n, id, ahead, last), m, q)]++
					}
				}
			}
		}
	}
	if seen[api.OK] < 100 || seen[api.ErrUsed] < 100 {
		t.Errorf("errors: %v", seen)
	}
}

// fours is a queue of 4 with two chains, at base 2 of a memory.
func fours(last uint16) api.Queue {
	return api.Queue{Base: 2, Size: 4, Free: []int{1}, Avail: 77, Last: last, Chains: []api.Chain{chainOf(10, 3, 0), chainOf(20, 2)}}
}

// TestPollOne: what comes back, by the words alone.
func TestPollOne(t *testing.T) {
	for _, last := range []uint16{0, 3, 65535} {
		m := counted(200)
		layUsed(m.Bytes, 2, 4, last, api.Used{ID: 3, Len: 10}, last+1)
		pollCame(t, "the first chain", m, fours(last), api.Queue{Base: 2, Size: 4, Free: []int{0, 1, 3}, Avail: 77, Last: last + 1, Chains: []api.Chain{chainOf(20, 2)}}, 3, 10, api.OK)
		layUsed(m.Bytes, 2, 4, last, api.Used{ID: 2, Len: 0}, last+2)
		pollCame(t, "a chain that is not the first", m, fours(last), api.Queue{Base: 2, Size: 4, Free: []int{1, 2}, Avail: 77, Last: last + 1, Chains: []api.Chain{chainOf(10, 3, 0)}}, 2, 0, api.OK)
		layUsed(m.Bytes, 2, 4, last, api.Used{ID: 2, Len: 20}, last)
		pollCame(t, "none", m, fours(last), fours(last), 0, 0, api.ErrNone)
	}
}

// TestPollAhead: Used is Last, ahead of it by as many as there are chains and more, and behind it.
func TestPollAhead(t *testing.T) {
	for _, r := range layouts() {
		for _, q := range queuesOf(r.n) {
			for _, last := range []uint16{0, 1, 5, 255, 32767, 32768, 65534, 65535} {
				for _, ahead := range []int{0, 1, len(q.Chains) - 1, len(q.Chains), len(q.Chains) + 1, 16, 17, 255, 256, 257, 32767, 32768, 65519, 65534, 65535} {
					if ahead < 0 {
						continue
					}
					q.Last = last
					m := filled(500, 0)
					id := 0
					if len(q.Chains) > 0 {
						id = q.Chains[len(q.Chains)-1].Head
					}
					layUsed(m.Bytes, 0, r.n, last, api.Used{ID: uint32(id)}, last+uint16(ahead))
					what := fmt.Sprintf("%d ahead of %d, %d chains", ahead, last, len(q.Chains))
					want := api.OK
					if ahead == 0 {
						want = api.ErrNone
					} else if ahead > len(q.Chains) {
						want = api.ErrUsed
					}
					if e := polls(t, what, m, q); e != want {
						t.Fatalf("%s: %d, not %d", what, e, want)
					}
					if want == api.ErrUsed {
						past := q
						past.Last = last + uint16(ahead)
						pollCame(t, what, m, q, past, 0, 0, api.ErrUsed)
					}
				}
			}
		}
	}
}

// TestPollUsed: a used one that is none: what is left behind is a Last of one more, and nothing else.
func TestPollUsed(t *testing.T) {
	for _, u := range []api.Used{
		{ID: 0, Len: 5}, {ID: 0, Len: 0}, {ID: 1, Len: 0}, {ID: 1, Len: 5}, {ID: 4, Len: 0}, {ID: 5, Len: 0}, {ID: 16, Len: 0}, {ID: 255, Len: 1}, {ID: 256 + 3, Len: 1}, {ID: 65535, Len: 1}, {ID: 65536 + 3, Len: 1},
		{ID: 1 << 31, Len: 0}, {ID: 1<<31 + 3, Len: 0}, {ID: math.MaxUint32, Len: 0}, {ID: math.MaxUint32, Len: math.MaxUint32},
		{ID: 3, Len: 11}, {ID: 3, Len: 20}, {ID: 3, Len: 30}, {ID: 3, Len: 1 << 31}, {ID: 3, Len: math.MaxUint32}, {ID: 2, Len: 21}, {ID: 2, Len: 256}, {ID: 2, Len: 65536 + 20}, {ID: 2, Len: 1<<31 + 20},
	} {
		for _, last := range []uint16{0, 1, 65535} {
			m := filled(150, 0x11)
			layUsed(m.Bytes, 2, 4, last, u, last+2)
			pollCame(t, fmt.Sprintf("%v at %d", u, last), m, fours(last), fours(last+1), 0, 0, api.ErrUsed)
		}
	}
}

// TestPollGreatRoom: up to the greatest room there may be, and no more.
func TestPollGreatRoom(t *testing.T) {
	q := api.Queue{Size: 1, Chains: []api.Chain{chainOf(1<<31-1, 0)}}
	free := api.Queue{Size: 1, Free: []int{0}, Last: 1}
	m := filled(36, 0)
	layUsed(m.Bytes, 0, 1, 0, api.Used{Len: 1<<31 - 1}, 1)
	pollCame(t, "the greatest", m, q, free, 0, 1<<31-1, api.OK)
	layUsed(m.Bytes, 0, 1, 0, api.Used{Len: 1 << 31}, 1)
	past := q
	past.Last = 1
	pollCame(t, "one more", m, q, past, 0, 0, api.ErrUsed)
}

// TestPollTwice: what came back is gone: said once more it was not handed over.
func TestPollTwice(t *testing.T) {
	m := filled(150, 0)
	layUsed(m.Bytes, 2, 4, 0, api.Used{ID: 2, Len: 1}, 1)
	q, head, n, e := Poll(m, fours(0))
	if head != 2 || n != 1 || e != api.OK {
		t.Fatalf("%d, %d, %d", head, n, e)
	}
	layUsed(m.Bytes, 2, 4, 1, api.Used{ID: 2, Len: 1}, 2)
	q, head, n, e = Poll(m, q)
	if head != 0 || n != 0 || e != api.ErrUsed {
		t.Fatalf("once more: %d, %d, %d", head, n, e)
	}
	isQueue(t, "once more", q, api.Queue{Base: 2, Size: 4, Free: []int{1, 2}, Avail: 77, Last: 2, Chains: []api.Chain{chainOf(10, 3, 0)}})
}

// P8.4

func TestServe(t *testing.T) {
	for _, base := range []int{0, 1, 4, 8192, -1, math.MinInt, math.MaxInt} {
		for _, n := range []int{0, 1, 2, 4, 16, 17, -1, math.MinInt, math.MaxInt} {
			if got := Serve(base, n); got != (api.Served{Base: base, Size: n}) {
				t.Errorf("Serve(%d, %d): %+v", base, n, got)
			}
		}
	}
}

// nextCame fails, unless Next comes to this.
func nextCame(t *testing.T, what string, m api.Mem, d, want api.Served, head int, parts []api.Buf, err api.Errno) {
	t.Helper()
	was := bytes.Clone(m.Bytes)
	got, h, l, e := Next(m, d)
	if e != err || h != head || got != want || !slices.Equal(l, parts) {
		t.Fatalf("%s: %+v, %d, %v, %d, not %+v, %d, %v, %d", what, got, h, l, e, want, head, parts, err)
	}
	isAs(t, what+": handed in", m, was)
}

// seen answers a device's side that has seen one more.
func seen(d api.Served) api.Served {
	d.Seen++
	return d
}

func TestNextRefused(t *testing.T) {
	for _, s := range noRings() {
		what := fmt.Sprintf("a ring of %d at %d of %d bytes", s.n, s.base, len(s.m.Bytes))
		for _, i := range []uint16{0, 65535} {
			d := api.Served{Base: s.base, Size: s.n, Seen: i, Used: 4}
			nextCame(t, what, s.m, d, d, 0, nil, api.ErrRing)
		}
	}
	nextCame(t, "a zero value", api.Mem{}, api.Served{}, api.Served{}, 0, nil, api.ErrRing)
}

// TestNextNone: none just if Avail is Seen; it may be ahead of it, or behind.
func TestNextNone(t *testing.T) {
	for _, r := range layouts() {
		for _, i := range []uint16{0, 1, 16, 32768, 65534, 65535} {
			for _, ahead := range []uint16{0, 1, 2, 16, 17, 256, 32768, 65534, 65535} {
				m := filled(500, 0)
				d := api.Served{Base: 5, Size: r.n, Seen: i, Used: 3}
				head := r.n - 1
				layDesc(m.Bytes, 5, head, api.Desc{Addr: 499, Len: 1, Flags: 2})
				layAvail(m.Bytes, 5, r.n, i, head, i+ahead)
				what := fmt.Sprintf("%d ahead of %d", ahead, i)
				if ahead == 0 {
					nextCame(t, what, m, d, d, 0, nil, api.ErrNone)
				} else {
					nextCame(t, what, m, d, seen(d), head, []api.Buf{{At: 499, Len: 1, Write: true}}, api.OK)
				}
			}
		}
	}
}

// chained answers memory with chains in a ring of n at 1: from a head on, each descriptor of a list leads to the one behind it, all with these Flags, but the last one.
func chained(n int, seen uint16, flags, last uint16, l ...int) api.Mem {
	m := filled(500, 0xEE)
	for k, i := range l {
		d := api.Desc{Addr: uint64(440 + i), Len: uint32(i + 1), Flags: flags, Next: 0xEEEE}
		if k+1 < len(l) {
			d.Next = uint16(l[k+1])
		} else {
			d.Flags = last
		}
		if i < n {
			layDesc(m.Bytes, 1, i, d)
		}
	}
	layAvail(m.Bytes, 1, n, seen, l[0], seen+1)
	return m
}

// partsIn are those of chained.
func partsIn(flags, last uint16, l ...int) []api.Buf {
	var p []api.Buf
	for k, i := range l {
		f := flags
		if k+1 == len(l) {
			f = last
		}
		p = append(p, api.Buf{At: 440 + i, Len: i + 1, Write: f/2%2 == 1})
	}
	return p
}

// TestNext: chains of each length, up and down, with each kind of Flags: an odd one goes on, and one with a 2 may be written, whatever else there is.
func TestNext(t *testing.T) {
	for _, r := range layouts() {
		up := upFrom(0, r.n, 1)
		down := slices.Clone(up)
		slices.Reverse(down)
		for _, all := range [][]int{up, down, append(upFrom(1, r.n, 2), upFrom(0, r.n, 2)...)} {
			for k := 1; k <= r.n; k++ {
				l := all[:k]
				for _, flags := range []uint16{1, 3, 5, 7, 9, 0x0101, 0x8001, 0xFFFD, 0xFFFF} {
					for _, last := range []uint16{0, 2, 4, 6, 8, 0x0100, 0x8000, 0xFFFC, 0xFFFE} {
						d := api.Served{Base: 1, Size: r.n, Seen: 65520 + flags%16 + last, Used: 9}
						m := chained(r.n, d.Seen, flags, last, l...)
						nextCame(t, fmt.Sprintf("%v, %x, %x", l, flags, last), m, d, seen(d), l[0], partsIn(flags, last, l...), api.OK)
					}
				}
			}
		}
	}
}

// nextFails fails, unless Next comes to ErrRing, and nothing but that one more is seen.
func nextFails(t *testing.T, what string, m api.Mem, d api.Served) {
	t.Helper()
	nextCame(t, what, m, d, seen(d), 0, nil, api.ErrRing)
}

// TestNextRound: chains that go round, or on beyond all descriptors, or to one that there is not.
func TestNextRound(t *testing.T) {
	for _, r := range layouts() {
		for _, i := range []uint16{0, 1, 65535} {
			d := api.Served{Base: 1, Size: r.n, Seen: i, Used: 2}
			all := upFrom(0, r.n, 1)
			for back := range r.n {
				m := chained(r.n, i, 1, 1, all...)
				layDesc(m.Bytes, 1, r.n-1, api.Desc{Addr: 7, Len: 1, Flags: 1, Next: uint16(back)})
				nextFails(t, "round, from the last one", m, d)
				m = chained(r.n, i, 1, 0, all...)
				layDesc(m.Bytes, 1, back, api.Desc{Addr: 7, Len: 1, Flags: 3, Next: uint16(back)})
				nextFails(t, "round, to the same one", m, d)
			}
			for _, far := range []int{r.n, r.n + 1, 2 * r.n, 16, 17, 255, 256, 32768, 65535} {
				if far < r.n {
					continue
				}
				m := filled(500, 0)
				layAvail(m.Bytes, 1, r.n, i, far, i+1)
				for j := range r.n {
					layDesc(m.Bytes, 1, j, api.Desc{Addr: 1, Len: 1})
				}
				nextFails(t, fmt.Sprintf("a head of %d", far), m, d)
				for k := 1; k <= r.n; k++ {
					nextFails(t, fmt.Sprintf("on to %d behind %d", far, k), chained(r.n, i, 1, 0, append(all[:k:k], far)...), d)
				}
			}
			// A Next that is not gone on to says nothing.
			nextCame(t, "all", chained(r.n, i, 1, 0, all...), d, seen(d), 0, partsIn(1, 0, all...), api.OK)
		}
	}
}

// TestNextParts: a part without a byte, or not within memory, wherever it stands in a chain.
func TestNextParts(t *testing.T) {
	bad := []api.Desc{
		{Addr: 5, Len: 0}, {Addr: 0, Len: 0}, {Addr: 500, Len: 0}, {Addr: 500, Len: 1}, {Addr: 499, Len: 2}, {Addr: 0, Len: 501}, {Addr: 1, Len: 500}, {Addr: 501, Len: 1}, {Addr: 5, Len: math.MaxUint32}, {Addr: 5, Len: 1 << 31},
		{Addr: 8192, Len: 1}, {Addr: 1 << 16, Len: 1}, {Addr: 1<<16 + 5, Len: 1}, {Addr: 1 << 32, Len: 1}, {Addr: 1<<32 + 5, Len: 1}, {Addr: 1<<63 - 1, Len: 1}, {Addr: 1<<63 - 1, Len: math.MaxUint32}, {Addr: 1 << 63, Len: 1},
		{Addr: 1<<63 + 5, Len: 1}, {Addr: math.MaxUint64, Len: 1}, {Addr: math.MaxUint64, Len: 2}, {Addr: math.MaxUint64, Len: 6}, {Addr: math.MaxUint64 - 4, Len: 6}, {Addr: math.MaxUint64, Len: math.MaxUint32}, {Addr: math.MaxUint64, Len: 0},
	}
	good := []api.Desc{{Addr: 0, Len: 1}, {Addr: 0, Len: 500}, {Addr: 1, Len: 499}, {Addr: 499, Len: 1}, {Addr: 498, Len: 2}, {Addr: 250, Len: 250}}
	for _, r := range layouts() {
		all := upFrom(0, r.n, 1)
		d := api.Served{Base: 1, Size: r.n, Seen: 65535, Used: 2}
		for at := range r.n {
			set := func(p api.Desc, write uint16) api.Mem {
				m := chained(r.n, d.Seen, 1, 0, all...)
				p.Next = uint16(at + 1)
				p.Flags = write
				if at+1 < r.n {
					p.Flags++
				}
				layDesc(m.Bytes, 1, at, p)
				return m
			}
			for _, p := range bad {
				nextFails(t, fmt.Sprintf("%v at %d of %d", p, at, r.n), set(p, 0), d)
				nextFails(t, fmt.Sprintf("%v at %d of %d, to be written", p, at, r.n), set(p, 2), d)
			}
			for _, p := range good {
				l := partsIn(1, 0, all...)
				l[at] = api.Buf{At: int(p.Addr), Len: int(p.Len), Write: true}
				nextCame(t, fmt.Sprintf("%v at %d of %d", p, at, r.n), set(p, 2), d, seen(d), 0, l, api.OK)
			}
		}
	}
}

// TestNextRoom: room behind a memory's end is nobody's.
func TestNextRoom(t *testing.T) {
	m := filled(500, 0)
	layDesc(m.Bytes, 0, 0, api.Desc{Addr: 110, Len: 6})
	layAvail(m.Bytes, 0, 4, 0, 0, 1)
	d := Serve(0, 4)
	nextCame(t, "up to the end", api.Mem{Bytes: m.Bytes[:116]}, d, seen(d), 0, []api.Buf{{At: 110, Len: 6}}, api.OK)
	nextFails(t, "beyond the end", api.Mem{Bytes: m.Bytes[:115]}, d)
}

// giveCame fails, unless Give comes to this.
func giveCame(t *testing.T, what string, m api.Mem, d api.Served, head, n int, want []byte, wantD api.Served, err api.Errno) {
	t.Helper()
	was := bytes.Clone(m.Bytes)
	got, gotD, e := Give(m, d, head, n)
	if e != err || gotD != wantD {
		t.Fatalf("%s: Give(%d, %d): %+v, %d, not %+v, %d", what, head, n, gotD, e, wantD, err)
	}
	isAs(t, what, got, want)
	isAs(t, what+": handed in", m, was)
}

// counts are numbers that may be given.
func counts() []int { return []int{0, 1, 15, 16, 255, 256, 65535, 65536, 1<<31 - 2, 1<<31 - 1} }

// noCounts are such as may not.
func noCounts() []int {
	return []int{-1, -2, -65536, -1 << 31, -1 << 32, -1<<32 + 5, math.MinInt, math.MinInt + 1, 1 << 31, 1<<31 + 1, 1<<32 - 1, 1 << 32, 1<<32 + 5, 1 << 62, math.MaxInt}
}

func TestGive(t *testing.T) {
	for _, r := range layouts() {
		for _, base := range []int{0, 3} {
			for _, i := range []uint16{0, 1, uint16(r.n - 1), uint16(r.n), 32768, 65534, 65535} {
				for _, head := range counts() {
					for _, n := range counts() {
						m := counted(base + r.size)
						d := api.Served{Base: base, Size: r.n, Seen: 41, Used: i}
						want := bytes.Clone(m.Bytes)
						layUsed(want, base, r.n, i, api.Used{ID: uint32(head), Len: uint32(n)}, i+1)
						next := d
						next.Used = i + 1
						giveCame(t, fmt.Sprintf("%d, at %d", r.n, i), m, d, head, n, want, next, api.OK)
					}
				}
			}
		}
	}
}

func TestGiveArg(t *testing.T) {
	for _, r := range layouts() {
		m := counted(500)
		d := api.Served{Base: 2, Size: r.n, Seen: 65535, Used: 65535}
		for _, bad := range noCounts() {
			for _, n := range append(counts(), noCounts()...) {
				giveCame(t, "a wrong head", m, d, bad, n, m.Bytes, d, api.ErrArg)
				giveCame(t, "a wrong n", m, d, n, bad, m.Bytes, d, api.ErrArg)
			}
		}
	}
}

// TestGiveRefused: layer 7's error comes behind ErrArg.
func TestGiveRefused(t *testing.T) {
	for _, s := range noRings() {
		d := api.Served{Base: s.base, Size: s.n, Seen: 5, Used: 6}
		for _, n := range counts() {
			giveCame(t, "no ring", s.m, d, n, n, s.m.Bytes, d, api.ErrRing)
		}
		for _, n := range noCounts() {
			giveCame(t, "no ring and a wrong head", s.m, d, n, 1, s.m.Bytes, d, api.ErrArg)
			giveCame(t, "no ring and a wrong n", s.m, d, 1, n, s.m.Bytes, d, api.ErrArg)
		}
	}
	giveCame(t, "a zero value", api.Mem{}, api.Served{}, 0, 0, nil, api.Served{}, api.ErrRing)
}

// P8.5, and what a driver and a device do together.

// pair is both sides of one ring, and what is to be told of them.
type pair struct {
	m     api.Mem
	q     api.Queue
	d     api.Served
	out   []lent       // handed over, in order, and not seen by the device
	there map[int]lent // by their heads: those that the device has seen
	back  []lent       // given, in order, and not polled
}

// lent is parts that were handed over, and how much was written.
type lent struct {
	head, n int
	parts   []api.Buf
}

// room answers how much may be written.
func (l lent) room() int {
	n := 0
	for _, p := range l.parts {
		if p.Write {
			n += p.Len
		}
	}
	return n
}

// pairAt answers both sides of a new ring, as they are once so many were handed over and came back.
func pairAt(t *testing.T, base, n int, i uint16) *pair {
	t.Helper()
	m, q, e := New(counted(900), base, n)
	if e != api.OK {
		t.Fatal(e)
	}
	q.Avail, q.Last = i, i
	layAvail(m.Bytes, base, n, 0, 0, i)
	layUsed(m.Bytes, base, n, 0, api.Used{}, i)
	d := Serve(base, n)
	d.Seen, d.Used = i, i
	return &pair{m: m, q: q, d: d, there: make(map[int]lent)}
}

// add hands parts over.
func (p *pair) add(t *testing.T, next func(int) int) {
	t.Helper()
	l := make([]api.Buf, 1+next(p.q.Size))
	for i := range l {
		at := next(900)
		l[i] = api.Buf{At: at, Len: 1 + next(900-at), Write: next(2) == 1}
	}
	if len(l) > len(p.q.Free) {
		addCame(t, "fewer are free", p.m, p.q, l, api.ErrFull)
		return
	}
	m, q, head, e := Add(p.m, p.q, l)
	if e != api.OK {
		t.Fatalf("Add: %d", e)
	}
	p.m, p.q = m, q
	p.out = append(p.out, lent{head: head, parts: l})
}

// see looks what was handed over.
func (p *pair) see(t *testing.T) {
	t.Helper()
	if len(p.out) == 0 {
		nextCame(t, "nothing was handed over", p.m, p.d, p.d, 0, nil, api.ErrNone)
		return
	}
	first := p.out[0]
	nextCame(t, "the first one", p.m, p.d, seen(p.d), first.head, first.parts, api.OK)
	p.d.Seen++
	p.out = p.out[1:]
	p.there[first.head] = first
}

// give gives any of those back that the device has.
func (p *pair) give(t *testing.T, next func(int) int) {
	t.Helper()
	var heads []int
	for head := range p.there {
		heads = append(heads, head)
	}
	if len(heads) == 0 {
		return
	}
	slices.Sort(heads)
	l := p.there[heads[next(len(heads))]]
	l.n = next(l.room() + 1)
	m, d, e := Give(p.m, p.d, l.head, l.n)
	if e != api.OK {
		t.Fatalf("Give: %d", e)
	}
	p.m, p.d = m, d
	delete(p.there, l.head)
	p.back = append(p.back, l)
}

// poll looks what came back.
func (p *pair) poll(t *testing.T) {
	t.Helper()
	q, head, n, e := Poll(p.m, p.q)
	if len(p.back) == 0 {
		if e != api.ErrNone || head != 0 || n != 0 {
			t.Fatalf("nothing came back: %d, %d, %d", head, n, e)
		}
		isQueue(t, "nothing came back", q, p.q)
		return
	}
	if want := p.back[0]; e != api.OK || head != want.head || n != want.n {
		t.Fatalf("%d, %d, %d, not %d, %d", head, n, e, want.head, want.n)
	}
	p.q, p.back = q, p.back[1:]
}

// holds fails, unless the queue has just what was handed over and did not come back.
func (p *pair) holds(t *testing.T) {
	t.Helper()
	if !Check(p.q) || len(p.q.Chains) != len(p.out)+len(p.there)+len(p.back) {
		t.Fatalf("%+v; %d, %d, %d", p.q, len(p.out), len(p.there), len(p.back))
	}
	n := len(p.q.Free)
	for _, c := range p.q.Chains {
		n += len(c.Descs)
	}
	if n != p.q.Size {
		t.Fatalf("%+v", p.q)
	}
}

// TestThereAndBack: what is handed over comes to the device, and back, each once and in order, while the indices turn round.
func TestThereAndBack(t *testing.T) {
	for k, r := range layouts() {
		for seed := range 6 {
			next := chance(uint64(100*k + seed))
			p := pairAt(t, next(9), r.n, []uint16{0, 65535, 65500, 65533}[seed%4])
			for range 700 {
				switch next(4) {
				case 0:
					p.add(t, next)
				case 1:
					p.see(t)
				case 2:
					p.give(t, next)
				case 3:
					p.poll(t)
				}
				p.holds(t)
			}
			for len(p.q.Chains) > 0 {
				p.see(t)
				p.give(t, next)
				p.poll(t)
			}
			isQueue(t, "all came back", p.q, api.Queue{Base: p.q.Base, Size: r.n, Free: upFrom(0, r.n, 1), Avail: p.q.Avail, Last: p.q.Avail})
			if p.d.Seen != p.q.Avail || p.d.Used != p.q.Avail {
				t.Fatalf("%+v, %+v", p.d, p.q)
			}
		}
	}
}

// TestAllTheWayRound: more than 2^16 of them, from a new ring on.
func TestAllTheWayRound(t *testing.T) {
	m, q, e := New(filled(60, 0), 0, 2)
	d := Serve(0, 2)
	for i := range 65536 + 10 {
		var head, h, n int
		var f, g, k api.Errno
		var l []api.Buf
		want := []api.Buf{{At: i % 60, Len: 1, Write: true}}
		m, q, head, e = Add(m, q, want)
		d, h, l, f = Next(m, d)
		m, d, g = Give(m, d, h, i%2)
		q, head, n, k = Poll(m, q)
		if max(e, f, g, k) != api.OK || head != 0 || h != 0 || n != i%2 || !slices.Equal(l, want) || q.Last != uint16(i+1) || q.Avail != uint16(i+1) {
			t.Fatalf("the %d-th: %d, %d, %d, %d; %d, %d, %d, %v, %+v", i, e, f, g, k, head, h, n, l, q)
		}
	}
}

// scribble writes over a ring what a device that lies may write: any byte of it, an index ahead of Last, or behind, or a used one that is, or that is not.
func scribble(next func(int) int, m api.Mem, q api.Queue) api.Mem {
	m = api.Mem{Bytes: bytes.Clone(m.Bytes)}
	r := layoutOf(q.Size)
	switch next(5) {
	case 0:
		for range 1 + next(20) {
			m.Bytes[q.Base+next(r.size)] = byte(next(256))
		}
	case 1:
		lay(m.Bytes, q.Base+r.used, 2, uint64(next(65536)))
	case 2:
		lay(m.Bytes, q.Base+r.used, 2, uint64(int(q.Last)+next(20)))
	default:
		u := api.Used{ID: uint32(next(q.Size + 2)), Len: uint32(next(1200))}
		if len(q.Chains) > 0 && next(3) > 0 {
			c := q.Chains[next(len(q.Chains))]
			u = api.Used{ID: uint32(c.Head), Len: uint32(next(c.Room + 2))}
		}
		if next(9) == 0 {
			u = api.Used{ID: uint32(next(1<<31)) * 2, Len: uint32(next(1<<31)) * 2}
		}
		layUsed(m.Bytes, q.Base, q.Size, q.Last, u, q.Last+1+uint16(next(3)))
	}
	return m
}

// TestWhateverADeviceSays: whatever is written into a ring, the queue Checks, and what is answered was handed over, did not come back yet, and is not more than may be.
func TestWhateverADeviceSays(t *testing.T) {
	came := make(map[api.Errno]int)
	for k, r := range layouts() {
		for seed := range 8 {
			next := chance(uint64(1000*k + seed))
			p := pairAt(t, next(5), r.n, uint16(65536-next(200)))
			for range 800 {
				if next(3) == 0 {
					p.add(t, next)
				}
				p.m = scribble(next, p.m, p.q)
				came[polls(t, "a device that lies", p.m, p.q)]++
				q, head, n, e := Poll(p.m, p.q)
				i := slices.IndexFunc(p.out, func(l lent) bool { return l.head == head })
				if e == api.OK && (i < 0 || n < 0 || n > p.out[i].room()) {
					t.Fatalf("%d, %d were not handed over: %v", head, n, p.out)
				}
				if e == api.OK {
					p.out = slices.Delete(p.out, i, i+1)
				}
				p.q = q
				p.holds(t)
				for i, c := range p.q.Chains {
					if c.Head != p.out[i].head || c.Room != p.out[i].room() || len(c.Descs) != len(p.out[i].parts) {
						t.Fatalf("%+v, not %+v", c, p.out[i])
					}
				}
			}
		}
	}
	if came[api.OK] < 500 || came[api.ErrUsed] < 500 || came[api.ErrNone] < 50 {
		t.Errorf("errors: %v", came)
	}
}

// TestWhateverADriverSays: whatever is written into a ring, what a device is told lies within memory, and has no more parts than there are descriptors.
func TestWhateverADriverSays(t *testing.T) {
	came := make(map[api.Errno]int)
	for k, r := range layouts() {
		next := chance(uint64(77 + k))
		for range 4000 {
			m := counted(600)
			base := next(9)
			for i := range r.n {
				d := api.Desc{Addr: uint64(next(601)), Len: uint32(next(60)), Flags: uint16(next(8)), Next: uint16(next(r.n + 1))}
				if next(30) == 0 {
					d.Addr = math.MaxUint64 - uint64(next(50))
				}
				layDesc(m.Bytes, base, i, d)
			}
			d := api.Served{Base: base, Size: r.n, Seen: uint16(next(65536)), Used: 8}
			head := next(r.n)
			layAvail(m.Bytes, base, r.n, d.Seen, head, uint16(next(65536)))
			if low(m.Bytes[base+r.avail:base+r.avail+2]) == uint64(d.Seen) {
				continue
			}
			parts, err := followed(m, base, r.n, head)
			if err != api.OK {
				head = 0
			}
			nextCame(t, "a driver that lies", m, d, seen(d), head, parts, err)
			came[err]++
		}
	}
	if came[api.OK] < 1000 || came[api.ErrRing] < 1000 {
		t.Errorf("errors: %v", came)
	}
}

// followed answers the parts of a chain, each descriptor of which is looked at once.
func followed(m api.Mem, base, n, head int) ([]api.Buf, api.Errno) {
	var l []api.Buf
	was := make([]bool, n)
	for i := head; ; {
		if i >= n || was[i] {
			return nil, api.ErrRing
		}
		was[i] = true
		d := descAt(m.Bytes, base, i)
		if d.Len == 0 || d.Addr > 8192 || int(d.Addr)+int(d.Len) > len(m.Bytes) {
			return nil, api.ErrRing
		}
		l = append(l, api.Buf{At: int(d.Addr), Len: int(d.Len), Write: d.Flags/2%2 == 1})
		if d.Flags%2 == 0 {
			return l, api.OK
		}
		i = int(d.Next)
	}
}

// R3: lists that nobody shares.

// wipe overwrites a list, and what room there is behind it.
func wipe[T any](l []T, with T) {
	l = l[:cap(l)]
	for i := range l {
		l[i] = with
	}
}

// wipeQueue overwrites all lists of a queue.
func wipeQueue(q api.Queue) {
	for _, c := range q.Chains {
		wipe(c.Descs, -7)
	}
	wipe(q.Free, -7)
	wipe(q.Chains, api.Chain{Head: -7})
}

// TestNothingShared: what is answered is the caller's own, also where a call is refused.
func TestNothingShared(t *testing.T) {
	m := counted(500)
	for _, r := range layouts() {
		for _, q := range append(queuesOf(r.n), api.Queue{}, api.Queue{Size: r.n, Free: []int{5}, Chains: []api.Chain{chainOf(-1, 9, 9)}}) {
			q = copyOf(q)
			wasQ := copyOf(q)
			for k, n := range []int{0, 1, 2, r.n, r.n + 1} {
				l := partsOf(n, k)
				got, gotQ, _, _ := Add(m, q, l)
				wipe(got.Bytes, 0xEE)
				wipeQueue(gotQ)
				isQueue(t, "Add: handed in", q, wasQ)
				if !slices.Equal(l, partsOf(n, k)) {
					t.Fatal("Add: the parts that were handed in were changed")
				}
			}
			for ahead := range uint16(4) {
				for id := range r.n + 1 {
					there := counted(500)
					layUsed(there.Bytes, 0, r.n, q.Last, api.Used{ID: uint32(id)}, q.Last+ahead)
					gotQ, _, _, _ := Poll(there, q)
					wipeQueue(gotQ)
					isQueue(t, "Poll: handed in", q, wasQ)
				}
			}
		}
		for _, base := range []int{-1, 0, 70, 500} {
			got, q, _ := New(m, base, r.n)
			wipe(got.Bytes, 0xEE)
			wipeQueue(q)
			for _, n := range []int{-1, 0, 1} {
				got, _, _ = Give(m, Serve(base, r.n), n, 0)
				wipe(got.Bytes, 0xEE)
			}
		}
		there := chained(r.n, 0, 1, 2, upFrom(0, r.n, 1)...)
		was := bytes.Clone(there.Bytes)
		_, _, l, _ := Next(there, Serve(1, r.n))
		wipe(l, api.Buf{At: -7})
		isAs(t, "Next: handed in", there, was)
	}
	isAs(t, "handed in", m, counted(500).Bytes)
}

// TestNoTwoShare: no two lists of an answer share any memory, so that what is appended to one does not come to stand in another.
func TestNoTwoShare(t *testing.T) {
	lists := func(q *api.Queue) []*[]int {
		l := []*[]int{&q.Free}
		for i := range q.Chains {
			l = append(l, &q.Chains[i].Descs)
		}
		return l
	}
	hold := func(what string, q api.Queue) {
		t.Helper()
		was := copyOf(q)
		for _, l := range lists(&q) {
			grown := append(*l, -7)
			_ = append(grown, -7)
			wipe((*l)[len(*l):], -7)
			isQueue(t, what, q, was)
		}
		for i, l := range lists(&q) {
			for j := range *l {
				(*l)[j] += 1000
			}
			for k, other := range lists(&q) {
				for j, x := range *other {
					if (k == i) != (x != (*lists(&was)[k])[j]) {
						t.Fatalf("%s: list %d and list %d share memory", what, i, k)
					}
				}
			}
			copy(*l, *lists(&was)[i])
		}
	}
	for _, r := range layouts() {
		for _, q := range queuesOf(r.n) {
			// Lists that are cut from one, with one behind the other.
			one := slices.Clone(q.Free)
			for _, c := range q.Chains {
				one = append(one, c.Descs...)
			}
			at := len(q.Free)
			q.Free = one[:at]
			for i, c := range q.Chains {
				q.Chains[i].Descs = one[at : at+len(c.Descs)]
				at += len(c.Descs)
			}
			was := slices.Clone(one)
			for n := range r.n + 2 {
				_, got, _, _ := Add(counted(600), q, partsOf(n, n))
				hold("Add", got)
			}
			for id := range r.n {
				m := filled(500, 0)
				layUsed(m.Bytes, 0, r.n, 0, api.Used{ID: uint32(id)}, 1)
				got, _, _, _ := Poll(m, q)
				hold("Poll", got)
			}
			if !slices.Equal(one, was) {
				t.Fatalf("lists that are cut from one were changed: %v, not %v", one, was)
			}
		}
	}
}

// TestTwoQueues: two of them in one memory know nothing of one another.
func TestTwoQueues(t *testing.T) {
	m, a, e := New(counted(400), 0, 4)
	m, b, f := New(m, 112, 2)
	m, a, _, g := Add(m, a, []api.Buf{{At: 300, Len: 5, Write: true}})
	m, b, _, h := Add(m, b, []api.Buf{{At: 310, Len: 6}, {At: 320, Len: 7, Write: true}})
	if max(e, f, g, h) != api.OK {
		t.Fatal(e, f, g, h)
	}
	nextCame(t, "the first one", m, Serve(0, 4), seen(Serve(0, 4)), 0, []api.Buf{{At: 300, Len: 5, Write: true}}, api.OK)
	nextCame(t, "the second one", m, Serve(112, 2), seen(Serve(112, 2)), 0, []api.Buf{{At: 310, Len: 6}, {At: 320, Len: 7, Write: true}}, api.OK)
	m, _, e = Give(m, Serve(112, 2), 0, 7)
	pollCame(t, "the first one", m, a, a, 0, 0, api.ErrNone)
	pollCame(t, "the second one", m, b, api.Queue{Base: 112, Size: 2, Free: []int{0, 1}, Avail: 1, Last: 1}, 0, 7, api.OK)
	if e != api.OK {
		t.Error(e)
	}
}
