package vnet

import (
	"bytes"
	"fmt"
	"math"
	"reflect"
	"slices"
	"testing"

	"phonograph/api"
	"phonograph/queue"
)

// layout is where things lie in a ring of n descriptors, from its base on, counted by hand.
type layout struct {
	n, avail, heads, used, entries, size int
}

// layoutOf answers that of a ring of n.
func layoutOf(n int) layout {
	for _, r := range []layout{
		{1, 18, 20, 26, 28, 36},
		{2, 34, 36, 42, 44, 60},
		{4, 66, 68, 78, 80, 112},
		{8, 130, 132, 150, 152, 216},
		{16, 258, 260, 294, 296, 424},
	} {
		if r.n == n {
			return r
		}
	}
	return layout{}
}

// counted answers a memory of n bytes, each unlike its neighbours.
func counted(n int) api.Mem {
	b := make([]byte, n)
	for i := range b {
		b[i] = byte(37*i + i/256 + 1)
	}
	return api.Mem{Bytes: b}
}

// dataOf answers n bytes, unlike those of another seed.
func dataOf(n, seed int) []byte {
	b := make([]byte, n)
	for i := range b {
		b[i] = byte(91*i + i/7 + 53*seed + 200)
	}
	return b
}

// layLow writes the size lowest bytes of a number over those of a list, the lowest one first.
func layLow(b []byte, at, size int, n uint64) {
	for i := range size {
		b[at+i] = byte(n % 256)
		n /= 256
	}
}

// layDesc writes the i-th descriptor of a ring over bytes.
func layDesc(b []byte, base, i int, d api.Desc) {
	at := base + 16*i
	layLow(b, at, 8, d.Addr)
	layLow(b, at+8, 4, uint64(d.Len))
	layLow(b, at+12, 2, uint64(d.Flags))
	layLow(b, at+14, 2, uint64(d.Next))
}

// layAvail writes over bytes what is available in a ring of n: a head at the place i modulo n, and the index.
func layAvail(b []byte, base, n int, i uint16, head int, index uint16) {
	r := layoutOf(n)
	layLow(b, base+r.heads+2*(int(i)%n), 2, uint64(head))
	layLow(b, base+r.avail, 2, uint64(index))
}

// layUsed writes over bytes what is used of a ring of n: one at the place i modulo n, and the index.
func layUsed(b []byte, base, n int, i uint16, u api.Used, index uint16) {
	r := layoutOf(n)
	at := base + r.entries + 8*(int(i)%n)
	layLow(b, at, 4, uint64(u.ID))
	layLow(b, at+4, 4, uint64(u.Len))
	layLow(b, base+r.used, 2, uint64(index))
}

// isAs fails, unless a memory has these bytes.
func isAs(t *testing.T, what string, got api.Mem, want []byte) {
	t.Helper()
	if bytes.Equal(got.Bytes, want) {
		return
	}
	at := 0
	for at < len(want) && at < len(got.Bytes) && got.Bytes[at] == want[at] {
		at++
	}
	t.Fatalf("%s: %d bytes, not %d; unlike from %d on: %.16x, not %.16x", what, len(got.Bytes), len(want), at, got.Bytes[at:], want[at:])
}

// copyOfQueue answers a queue that has no list in common with the one that it was copied from; none of its lists is nil.
func copyOfQueue(q api.Queue) api.Queue {
	q.Free = append([]int{}, q.Free...)
	l := []api.Chain{}
	for _, c := range q.Chains {
		c.Descs = append([]int{}, c.Descs...)
		l = append(l, c)
	}
	q.Chains = l
	return q
}

// copyOf answers a driver that has no list in common with the one that it was copied from; none of its lists is nil.
func copyOf(v api.Net) api.Net {
	v.Rx, v.Tx = copyOfQueue(v.Rx), copyOfQueue(v.Tx)
	return v
}

// isNet fails, unless a driver is as this one, in all its fields.
func isNet(t *testing.T, what string, got, want api.Net) {
	t.Helper()
	if !reflect.DeepEqual(copyOf(got), copyOf(want)) {
		t.Fatalf("%s: %+v, not %+v", what, got, want)
	}
}

// chance makes a function that answers numbers below one that it is handed, the same ones again for the same seed.
func chance(seed uint64) func(n int) int {
	x := seed*2862933555777941757 + 3037000493
	return func(n int) int {
		x = x*6364136223846793005 + 1442695040888963407
		return int(x >> 33 % uint64(n))
	}
}

// upTo answers the numbers from 0 below n.
func upTo(n int) []int {
	l := []int{}
	for i := range n {
		l = append(l, i)
	}
	return l
}

// shuffled answers the numbers from 0 below n, in an order that chance tells.
func shuffled(n int, next func(int) int) []int {
	l := upTo(n)
	for i := n - 1; i > 0; i-- {
		j := next(i + 1)
		l[i], l[j] = l[j], l[i]
	}
	return l
}

// orders are all orders of four.
func orders() [][]int {
	var l [][]int
	for a := range 4 {
		for b := range 4 {
			for c := range 4 {
				if d := 6 - a - b - c; a != b && a != c && b != c {
					l = append(l, []int{a, b, c, d})
				}
			}
		}
	}
	return l
}

// where is where a ring of what comes, one of what goes, and the buffers lie.
type where struct {
	rx, tx, at int
}

// apart are places that have no byte in common, in 1800 bytes.
func apart() where { return where{rx: 3, tx: 120, at: 240} }

// sideOf answers a queue of four, and the chains of its buffers, of which the bits of a mask tell which ones are handed over. Its chains have any descriptors, and stand in any order.
func sideOf(mask, base, room int, next func(int) int) (api.Queue, [4]int) {
	q := api.Queue{Base: base, Size: 4, Avail: uint16(next(65536)), Last: uint16(next(65536))}
	var numbers [4]int
	descs := shuffled(4, next)
	for _, i := range shuffled(4, next) {
		if mask>>i%2 == 0 {
			continue
		}
		q.Chains = append(q.Chains, api.Chain{Head: descs[0], Descs: []int{descs[0]}, Room: room})
		numbers[i] = descs[0] + 1
		descs = descs[1:]
	}
	for len(q.Chains) > 0 && len(descs) > 0 && next(4) == 0 {
		c := &q.Chains[next(len(q.Chains))]
		c.Descs = append(c.Descs, descs[0])
		descs = descs[1:]
	}
	slices.Sort(descs)
	q.Free = descs
	return q, numbers
}

// driver answers one that may be.
func driver(in, outs int, w where, next func(int) int) api.Net {
	v := api.Net{At: w.at}
	v.Rx, v.In = sideOf(in, w.rx, 192, next)
	v.Tx, v.Outs = sideOf(outs, w.tx, 0, next)
	return v
}

// drivers are such with each choice of buffers that are handed over, on either side.
func drivers(w where, seed uint64) []api.Net {
	next := chance(seed)
	var l []api.Net
	for mask := range 16 {
		l = append(l, driver(mask, (mask*7+int(seed))%16, w, next))
	}
	return l
}

// twoLent answers a queue of which two of the buffers are handed over, and their chains.
func twoLent() (api.Queue, [4]int) {
	return api.Queue{
		Base: 4, Size: 4, Free: []int{1}, Avail: 9, Last: 7,
		Chains: []api.Chain{{Head: 2, Descs: []int{2, 0}, Room: 192}, {Head: 3, Descs: []int{3}, Room: 192}},
	}, [4]int{0, 4, 0, 3}
}

// either answers two drivers: one that has a queue and chains for what comes, one that has them for what goes. The other side of each may be.
func either(q api.Queue, numbers [4]int) []api.Net {
	other := api.Queue{Base: 120, Size: 4, Free: []int{0, 3}, Avail: 3, Last: 1, Chains: []api.Chain{{Head: 2, Descs: []int{2}}, {Head: 1, Descs: []int{1}}}}
	l := []api.Net{
		{Rx: q, Tx: other, At: 300, In: numbers, Outs: [4]int{0, 2, 3, 0}},
		{Rx: other, Tx: q, At: 300, In: [4]int{3, 0, 0, 2}, Outs: numbers},
	}
	return []api.Net{copyOf(l[0]), copyOf(l[1])}
}

// P10.1

// sideMayBe is P10.1's Check of one side, done once more by going through the numbers.
func sideMayBe(q api.Queue, numbers [4]int) bool {
	if !queue.Check(q) || q.Size != 4 {
		return false
	}
	n := 0
	for i, number := range numbers {
		if number == 0 {
			continue
		}
		n++
		found := false
		for _, c := range q.Chains {
			found = found || c.Head == number-1
		}
		for _, other := range numbers[:i] {
			found = found && other != number
		}
		if !found {
			return false
		}
	}
	return n == len(q.Chains)
}

// mayBe is P10.1's Check of all.
func mayBe(v api.Net) bool {
	return sideMayBe(v.Rx, v.In) && sideMayBe(v.Tx, v.Outs) && v.At >= 0 && v.At <= 8192
}

// checks fails, unless Check answers this.
func checks(t *testing.T, what string, v api.Net, want bool) {
	t.Helper()
	was := copyOf(v)
	if got := Check(v); got != want {
		t.Errorf("%s: %+v: %v", what, v, got)
	}
	isNet(t, what+": handed in", v, was)
}

func TestCheck(t *testing.T) {
	checks(t, "a zero value", api.Net{}, false)
	free := api.Queue{Size: 4, Free: upTo(4)}
	checks(t, "nothing is handed over", api.Net{Rx: free, Tx: free}, true)
	lent := api.Queue{Size: 4, Avail: 4}
	for i := range 4 {
		lent.Chains = append(lent.Chains, api.Chain{Head: i, Descs: []int{i}, Room: 192})
	}
	checks(t, "a new one", api.Net{Rx: lent, Tx: free, In: [4]int{1, 2, 3, 4}}, true)
	checks(t, "all is handed over", api.Net{Rx: lent, Tx: lent, In: [4]int{4, 2, 1, 3}, Outs: [4]int{1, 3, 2, 4}}, true)
	for seed := range uint64(20) {
		for _, v := range drivers(apart(), seed) {
			checks(t, "one that may be", v, true)
		}
	}
}

func TestCheckSizes(t *testing.T) {
	for _, n := range []int{0, 1, 2, 4, 8, 16} {
		for _, v := range either(api.Queue{Size: n, Free: upTo(n)}, [4]int{}) {
			checks(t, fmt.Sprintf("a size of %d", n), v, n == 4)
		}
		full := api.Queue{Size: n, Chains: []api.Chain{{Descs: upTo(n)}}}
		for _, v := range either(full, [4]int{0, 0, 1, 0}) {
			checks(t, fmt.Sprintf("a size of %d, all in a chain", n), v, n == 4)
		}
	}
	for _, n := range []int{-4, -1, 3, 5, 32, 1<<32 + 4, math.MaxInt, math.MinInt, math.MinInt + 4} {
		for _, v := range either(api.Queue{Size: n, Free: upTo(4)}, [4]int{}) {
			checks(t, "no size", v, false)
		}
	}
}

func TestCheckQueue(t *testing.T) {
	for i, change := range []func(q *api.Queue){
		func(q *api.Queue) { q.Base = -1 },
		func(q *api.Queue) { q.Free = nil },
		func(q *api.Queue) { q.Free[0] = 0 },
		func(q *api.Queue) { q.Free[0] = 4 },
		func(q *api.Queue) { q.Free = append(q.Free, 1) },
		func(q *api.Queue) { q.Chains[0].Room = -1 },
		func(q *api.Queue) { q.Chains[0].Room = 1 << 31 },
		func(q *api.Queue) { q.Chains[0].Descs[1] = 3 },
		func(q *api.Queue) { q.Chains[0].Descs[0] = 0; q.Chains[0].Descs[1] = 2 },
		func(q *api.Queue) { q.Chains[1].Descs = nil },
		func(q *api.Queue) { q.Chains = append(q.Chains, api.Chain{}) },
	} {
		q, numbers := twoLent()
		change(&q)
		for _, v := range either(q, numbers) {
			checks(t, fmt.Sprintf("a queue that does not Check, %d", i), v, false)
		}
	}
	for _, i := range []uint16{0, 1, 65535} {
		for _, room := range []int{0, 1, 192, 193, 1<<31 - 1} {
			q, numbers := twoLent()
			q.Avail, q.Last, q.Base, q.Chains[0].Room = i, ^i, math.MaxInt, room
			for _, v := range either(q, numbers) {
				checks(t, "a queue that Checks", v, true)
			}
		}
	}
}

func TestCheckAt(t *testing.T) {
	for _, v := range either(twoLent()) {
		for _, at := range []int{0, 1, 2, 500, 6656, 6657, 8191, 8192} {
			v.At = at
			checks(t, "a place", v, true)
		}
		for _, at := range []int{-1, -2, -8192, math.MinInt, math.MinInt + 500, 8193, 8194, 1 << 31, 1 << 32, 1<<32 + 500, math.MaxInt} {
			v.At = at
			checks(t, "no place", v, false)
		}
	}
}

func TestCheckNumbers(t *testing.T) {
	for i, c := range []struct {
		change func(q *api.Queue, n *[4]int)
		want   bool
	}{
		{func(q *api.Queue, n *[4]int) { n[1] = 0 }, false},      // fewer than there are Chains
		{func(q *api.Queue, n *[4]int) { n[1] = 1 }, false},      // of a chain, but not its head
		{func(q *api.Queue, n *[4]int) { n[1] = 2 }, false},      // a free one
		{func(q *api.Queue, n *[4]int) { n[1] = 3 }, false},      // the other one's
		{func(q *api.Queue, n *[4]int) { n[3] = 4 }, false},      // the other one's
		{func(q *api.Queue, n *[4]int) { n[1] = 5 }, false},      // none
		{func(q *api.Queue, n *[4]int) { n[1] = -1 }, false},     // none
		{func(q *api.Queue, n *[4]int) { n[1] = -4 }, false},     // none
		{func(q *api.Queue, n *[4]int) { n[0] = -1 }, false},     // none, and more than there are Chains
		{func(q *api.Queue, n *[4]int) { n[0] = 2 }, false},      // more than there are Chains
		{func(q *api.Queue, n *[4]int) { n[0] = 4 }, false},      // more, and two the same
		{func(q *api.Queue, n *[4]int) { *n = [4]int{} }, false}, // none of two
		{func(q *api.Queue, n *[4]int) { *n = [4]int{4, 3, 2, 1} }, false},
		{func(q *api.Queue, n *[4]int) { *n = [4]int{0, 3, 0, 2} }, false}, // the Heads themselves
		{func(q *api.Queue, n *[4]int) { n[1] = 1<<32 + 4 }, false},
		{func(q *api.Queue, n *[4]int) { n[1] = math.MaxInt }, false},
		{func(q *api.Queue, n *[4]int) { n[1] = math.MinInt }, false},
		{func(q *api.Queue, n *[4]int) { n[1] = math.MinInt + 4 }, false},
		{func(q *api.Queue, n *[4]int) { n[1], n[3] = 3, 4 }, true},
		{func(q *api.Queue, n *[4]int) { *n = [4]int{3, 0, 4, 0} }, true},
		{func(q *api.Queue, n *[4]int) { slices.Reverse(q.Chains) }, true},
		{func(q *api.Queue, n *[4]int) { q.Free, q.Chains = upTo(4), nil }, false},
		{func(q *api.Queue, n *[4]int) { q.Free, q.Chains, *n = upTo(4), nil, [4]int{} }, true},
		{func(q *api.Queue, n *[4]int) { q.Free, q.Chains = []int{1, 3}, q.Chains[:1] }, false}, // one chain less
		{func(q *api.Queue, n *[4]int) { q.Free, q.Chains, n[1] = []int{1, 3}, q.Chains[:1], 0 }, true},
		{func(q *api.Queue, n *[4]int) { q.Free, q.Chains, n[1] = []int{1, 3}, q.Chains[:1], 3 }, false},
		{func(q *api.Queue, n *[4]int) {
			q.Free, q.Chains = nil, append(q.Chains, api.Chain{Head: 1, Descs: []int{1}})
		}, false}, // one chain more
		{func(q *api.Queue, n *[4]int) {
			q.Free, q.Chains, n[2] = nil, append(q.Chains, api.Chain{Head: 1, Descs: []int{1}}), 2
		}, true},
		{func(q *api.Queue, n *[4]int) {
			q.Free, q.Chains, n[2] = nil, append(q.Chains, api.Chain{Head: 1, Descs: []int{1}}), 4
		}, false}, // as many, but two the same
	} {
		q, numbers := twoLent()
		c.change(&q, &numbers)
		for _, v := range either(q, numbers) {
			checks(t, fmt.Sprintf("numbers, %d", i), v, c.want)
			if mayBe(v) != c.want {
				t.Errorf("numbers, %d: not as P10.1 has it", i)
			}
		}
	}
}

// TestCheckAny: all numbers from -1 to 5 of all sides that have no chain, or up to four.
func TestCheckAny(t *testing.T) {
	came := make(map[bool]int)
	for mask := range 16 {
		next := chance(uint64(mask))
		q, numbers := sideOf(mask, 4, 192, next)
		for code := range 7 * 7 * 7 * 7 {
			numbers = [4]int{code%7 - 1, code/7%7 - 1, code/49%7 - 1, code/343 - 1}
			want := sideMayBe(q, numbers)
			for _, v := range either(q, numbers) {
				checks(t, "any numbers", v, want)
			}
			came[want]++
		}
	}
	if came[true] < 100 || came[false] < 1000 {
		t.Errorf("not both: %v", came)
	}
}

// made answers what P10.1 asks for of a new one, done once more on bytes.
func made(m api.Mem, w where) ([]byte, api.Net) {
	now := bytes.Clone(m.Bytes)
	clear(now[w.rx : w.rx+112])
	clear(now[w.tx : w.tx+112])
	v := api.Net{Rx: api.Queue{Base: w.rx, Size: 4, Avail: 4}, Tx: api.Queue{Base: w.tx, Size: 4, Free: upTo(4)}, At: w.at}
	for i := range 4 {
		layDesc(now, w.rx, i, api.Desc{Addr: uint64(w.at + 192*i), Len: 192, Flags: 2})
		layAvail(now, w.rx, 4, uint16(i), i, uint16(i+1))
		v.Rx.Chains = append(v.Rx.Chains, api.Chain{Head: i, Descs: []int{i}, Room: 192})
		v.In[i] = i + 1
	}
	return now, v
}

// makes fails, unless New comes to what P10.1 asks for.
func makes(t *testing.T, m api.Mem, w where) {
	t.Helper()
	what := fmt.Sprintf("New of %+v in %d bytes", w, len(m.Bytes))
	was := bytes.Clone(m.Bytes)
	want, wantV := made(m, w)
	got, v, e := New(m, w.rx, w.tx, w.at)
	if e != api.OK || !Check(v) {
		t.Fatalf("%s: %d", what, e)
	}
	isAs(t, what, got, want)
	isNet(t, what, v, wantV)
	isAs(t, what+": handed in", m, was)
}

// makesNot fails, unless New comes to this error, with the memory as it was.
func makesNot(t *testing.T, m api.Mem, w where, err api.Errno) {
	t.Helper()
	what := fmt.Sprintf("New of %+v in %d bytes", w, len(m.Bytes))
	was := bytes.Clone(m.Bytes)
	got, v, e := New(m, w.rx, w.tx, w.at)
	if e != err {
		t.Fatalf("%s: %d, not %d", what, e, err)
	}
	isAs(t, what, got, was)
	isNet(t, what, v, api.Net{})
	isAs(t, what+": handed in", m, was)
}

// TestNewByHand: with what is laid counted by hand.
func TestNewByHand(t *testing.T) {
	got, v, e := New(counted(1900), 0, 120, 300)
	if e != api.OK {
		t.Fatal(e)
	}
	want := counted(1900).Bytes
	clear(want[:112])
	clear(want[120:232])
	copy(want, []byte{
		0x2C, 1, 0, 0, 0, 0, 0, 0, 192, 0, 0, 0, 2, 0, 0, 0,
		0xEC, 1, 0, 0, 0, 0, 0, 0, 192, 0, 0, 0, 2, 0, 0, 0,
		0xAC, 2, 0, 0, 0, 0, 0, 0, 192, 0, 0, 0, 2, 0, 0, 0,
		0x6C, 3, 0, 0, 0, 0, 0, 0, 192, 0, 0, 0, 2, 0, 0, 0,
		0, 0, 4, 0, 0, 0, 1, 0, 2, 0, 3, 0,
	})
	isAs(t, "New", got, want)
	isNet(t, "New", v, api.Net{
		Rx: api.Queue{Size: 4, Avail: 4, Chains: []api.Chain{
			{Head: 0, Descs: []int{0}, Room: 192}, {Head: 1, Descs: []int{1}, Room: 192}, {Head: 2, Descs: []int{2}, Room: 192}, {Head: 3, Descs: []int{3}, Room: 192},
		}},
		Tx: api.Queue{Base: 120, Size: 4, Free: []int{0, 1, 2, 3}},
		At: 300,
		In: [4]int{1, 2, 3, 4},
	})
}

// TestNew: of 2000 bytes the eighth buffer's last byte is the last one, where the first begins at 464. Rings, and buffers, may share bytes.
func TestNew(t *testing.T) {
	for _, rx := range []int{0, 1, 2, 3, 4, 50, 112, 300, 464, 1000, 2000 - 113, 2000 - 112} {
		for _, tx := range []int{0, 1, 2, 3, 4, 51, 66, 111, 112, 113, 301, 2000 - 113, 2000 - 112} {
			for _, at := range []int{0, 1, 50, 111, 112, 224, 463, 464} {
				makes(t, counted(2000), where{rx, tx, at})
			}
		}
	}
	for _, n := range []int{1536, 1537, 1760, 8191, 8192} {
		makes(t, counted(n), where{n - 112, 0, n - 1536})
		makes(t, counted(n), where{0, n - 112, n - 1536})
	}
}

// TestNewSharedRings: two rings at every distance.
func TestNewSharedRings(t *testing.T) {
	for tx := range 225 {
		makes(t, counted(2000), where{112, tx, 464})
		makes(t, counted(2000), where{112, tx, tx})
	}
}

func TestNewRefused(t *testing.T) {
	noBases := []int{-1, -2, -112, 2000 - 111, 1999, 2000, 2001, 8192, 1 << 32, math.MaxInt, math.MaxInt - 111, math.MinInt, math.MinInt + 4}
	for _, at := range []int{-1, -2, -192, -1536, 465, 466, 656, 1999, 2000, 2001, 8192, 1 << 31, 1 << 32, 1<<32 + 300, 1 << 62, math.MaxInt, math.MaxInt - 1535, math.MaxInt - 1536, math.MinInt, math.MinInt + 300} {
		makesNot(t, counted(2000), where{0, 112, at}, api.ErrRange)
		makesNot(t, counted(2000), where{2000 - 112, 3, at}, api.ErrRange)
		for _, base := range noBases {
			makesNot(t, counted(2000), where{base, 112, at}, api.ErrRing)
			makesNot(t, counted(2000), where{0, base, at}, api.ErrRing)
		}
		makesNot(t, counted(8193), where{0, 112, at}, api.ErrRing)
		makesNot(t, api.Mem{}, where{0, 112, at}, api.ErrRing)
	}
	for _, base := range noBases {
		makesNot(t, counted(2000), where{base, 112, 300}, api.ErrRing)
		makesNot(t, counted(2000), where{0, base, 300}, api.ErrRing)
		makesNot(t, counted(2000), where{base, base, 300}, api.ErrRing)
	}
	makesNot(t, counted(8193), where{0, 112, 300}, api.ErrRing)
	makesNot(t, counted(111), where{0, 0, 0}, api.ErrRing)
	for _, n := range []int{112, 1000, 1535} {
		makesNot(t, counted(n), where{0, 0, 0}, api.ErrRange)
	}
	makesNot(t, counted(1536), where{0, 112, 1}, api.ErrRange)
	makesNot(t, api.Mem{}, where{}, api.ErrRing)
}

// P10.2: Take

// TestExample: the chapter's, with what is laid counted by hand.
func TestExample(t *testing.T) {
	m, v, e := New(counted(1900), 0, 120, 300)
	want := bytes.Clone(m.Bytes)
	m, rx, f := Bring(m, queue.Serve(0, 4), []byte{1, 2, 3})
	copy(want[300:], []byte{1, 2, 3})
	want[78], want[84] = 1, 3
	isAs(t, "Bring", m, want)
	m, v, b, g := Take(m, v)
	want[66] = 5
	isAs(t, "Take", m, want)
	if max(e, f, g) != api.OK || !bytes.Equal(b, []byte{1, 2, 3}) || rx != (api.Served{Size: 4, Seen: 1, Used: 1}) {
		t.Fatal(e, f, g, b, rx)
	}
	m, v, e = Send(m, v, []byte{4})
	want[1068] = 4
	copy(want[120:], []byte{0x2C, 4, 0, 0, 0, 0, 0, 0, 1})
	want[186] = 1
	isAs(t, "Send", m, want)
	if v.Outs != [4]int{1, 0, 0, 0} {
		t.Fatalf("%+v", v)
	}
	m, tx, b, f := Fetch(m, queue.Serve(120, 4))
	want[198] = 1
	isAs(t, "Fetch", m, want)
	if max(e, f) != api.OK || !bytes.Equal(b, []byte{4}) || tx != (api.Served{Base: 120, Size: 4, Seen: 1, Used: 1}) {
		t.Fatal(e, f, b, tx)
	}
	if v, e = Reap(m, v); e != api.OK {
		t.Fatal(e)
	}
	isNet(t, "Reap", v, api.Net{
		Rx: api.Queue{Size: 4, Avail: 5, Last: 1, Chains: []api.Chain{
			{Head: 1, Descs: []int{1}, Room: 192}, {Head: 2, Descs: []int{2}, Room: 192}, {Head: 3, Descs: []int{3}, Room: 192}, {Head: 0, Descs: []int{0}, Room: 192},
		}},
		Tx: api.Queue{Base: 120, Size: 4, Free: []int{0, 1, 2, 3}, Avail: 1, Last: 1},
		At: 300,
		In: [4]int{1, 2, 3, 4},
	})
}

// freed answers a queue behind a chain that came back.
func freed(q api.Queue, head int) api.Queue {
	q = copyOfQueue(q)
	k := 0
	for q.Chains[k].Head != head {
		k++
	}
	q.Free = append(q.Free, q.Chains[k].Descs...)
	slices.Sort(q.Free)
	q.Chains = slices.Delete(q.Chains, k, k+1)
	q.Last++
	return q
}

// added answers a queue behind the handing over of one part, which is laid over bytes, and the number of its chain.
func added(b []byte, q api.Queue, d api.Desc) (api.Queue, int) {
	q = copyOfQueue(q)
	head := q.Free[0]
	layDesc(b, q.Base, head, d)
	layAvail(b, q.Base, 4, q.Avail, head, q.Avail+1)
	c := api.Chain{Head: head, Descs: []int{head}}
	if d.Flags == 2 {
		c.Room = int(d.Len)
	}
	q.Free, q.Chains, q.Avail = q.Free[1:], append(q.Chains, c), q.Avail+1
	return q, head + 1
}

// givenBack answers a memory in which the i-th buffer for what comes is given back, with so many bytes.
func givenBack(m api.Mem, v api.Net, i, n int) api.Mem {
	m.Bytes = bytes.Clone(m.Bytes)
	layUsed(m.Bytes, v.Rx.Base, 4, v.Rx.Last, api.Used{ID: uint32(v.In[i] - 1), Len: uint32(n)}, v.Rx.Last+1)
	return m
}

// takeCame fails, unless Take comes to this.
func takeCame(t *testing.T, what string, m api.Mem, v api.Net, want []byte, wantV api.Net, frame []byte, err api.Errno) {
	t.Helper()
	was, wasV := bytes.Clone(m.Bytes), copyOf(v)
	got, gotV, b, e := Take(m, v)
	if e != err || !bytes.Equal(b, frame) {
		t.Fatalf("%s: %x, %d, not %x, %d", what, b, e, frame, err)
	}
	isAs(t, what, got, want)
	isNet(t, what, gotV, wantV)
	isAs(t, what+": handed in", m, was)
	isNet(t, what+": handed in", v, wasV)
	if Check(gotV) != Check(v) {
		t.Fatalf("%s: %+v Checks no more", what, gotV)
	}
}

// takes fails, unless Take of the i-th buffer, of which n bytes were written, comes to what P10.2 asks for, done once more on bytes. It answers what it came to.
func takes(t *testing.T, what string, m api.Mem, v api.Net, i, n int) (api.Mem, api.Net) {
	t.Helper()
	want, wantV := bytes.Clone(m.Bytes), copyOf(v)
	at := v.At + 192*i
	wantV.Rx = freed(v.Rx, v.In[i]-1)
	if at+192 > len(m.Bytes) {
		wantV.In[i] = 0
		takeCame(t, what, m, v, want, wantV, nil, api.ErrArg)
		return api.Mem{Bytes: want}, wantV
	}
	wantV.Rx, wantV.In[i] = added(want, wantV.Rx, api.Desc{Addr: uint64(at), Len: 192, Flags: 2})
	if n < 1 || n > 180 {
		takeCame(t, what, m, v, want, wantV, nil, api.ErrDrop)
	} else {
		takeCame(t, what, m, v, want, wantV, m.Bytes[at:at+n], api.OK)
	}
	return api.Mem{Bytes: want}, wantV
}

func TestTake(t *testing.T) {
	for seed := range uint64(4) {
		w := apart()
		w.rx, w.at = w.rx-int(seed%4), w.at+5*int(seed)
		for _, v := range drivers(w, seed) {
			for i, number := range v.In {
				if number == 0 {
					continue
				}
				for _, n := range []int{0, 1, 2, 3, 90, 179, 180, 181, 182, 191, 192} {
					takes(t, fmt.Sprintf("%d bytes of buffer %d", n, i), givenBack(counted(1800), v, i, n), v, i, n)
				}
			}
		}
	}
}

// TestTakeRoom: one that had more room than a buffer has, of which more was written.
func TestTakeRoom(t *testing.T) {
	for _, v := range drivers(apart(), 11) {
		for k := range v.Rx.Chains {
			v.Rx.Chains[k].Room = 1<<31 - 1
		}
		for i, number := range v.In {
			if number == 0 {
				continue
			}
			for _, n := range []int{180, 181, 192, 193, 600, 1799, 1800, 8192, 65536 + 3, 1<<31 - 1} {
				takes(t, fmt.Sprintf("%d bytes of buffer %d", n, i), givenBack(counted(1800), v, i, n), v, i, n)
			}
		}
	}
}

// TestTakeNothing: what layer 8's Poll calls an error is one, and its queue is as that leaves it.
func TestTakeNothing(t *testing.T) {
	for seed := range uint64(3) {
		for _, v := range drivers(apart(), 20+seed) {
			base, last := v.Rx.Base, v.Rx.Last
			m := counted(1800)
			layUsed(m.Bytes, base, 4, last, api.Used{Len: 1}, last)
			takeCame(t, "nothing came back", m, v, m.Bytes, v, nil, api.ErrNone)
			for _, ahead := range []uint16{uint16(len(v.Rx.Chains) + 1), 5, 17, 32768, 65535} {
				want := copyOf(v)
				want.Rx.Last = last + ahead
				layUsed(m.Bytes, base, 4, last, api.Used{ID: uint32(v.In[0] - 1), Len: 1}, last+ahead)
				takeCame(t, "too many came back", m, v, m.Bytes, want, nil, api.ErrUsed)
			}
			if len(v.Rx.Chains) == 0 {
				continue
			}
			want := copyOf(v)
			want.Rx.Last++
			c := v.Rx.Chains[0]
			wrong := []api.Used{
				{ID: 4, Len: 1}, {ID: 1<<32 - 1, Len: 1}, {ID: uint32(c.Head) + 1<<16, Len: 1}, {ID: uint32(c.Head) + 4, Len: 1},
				{ID: uint32(c.Head), Len: 193}, {ID: uint32(c.Head), Len: 1<<32 - 1},
			}
			for _, d := range append(v.Rx.Free, c.Descs[1:]...) {
				wrong = append(wrong, api.Used{ID: uint32(d), Len: 1})
			}
			for _, u := range wrong {
				layUsed(m.Bytes, base, 4, last, u, last+1)
				takeCame(t, fmt.Sprintf("%+v", u), m, v, m.Bytes, want, nil, api.ErrUsed)
			}
		}
	}
}

// TestTakeNoRing: there may be no ring, so that nothing is looked at.
func TestTakeNoRing(t *testing.T) {
	for _, v := range drivers(apart(), 30) {
		for _, n := range []int{0, 1, 3, 114, 8193, 9000} {
			m := counted(n)
			takeCame(t, "no ring", m, v, m.Bytes, v, nil, api.ErrRing)
		}
		for _, base := range []int{1800 - 111, 1800, 8192, 1 << 32, math.MaxInt} {
			v.Rx.Base = base
			m := counted(1800)
			takeCame(t, "no ring", m, v, m.Bytes, v, nil, api.ErrRing)
		}
	}
}

// TestTakeBeyond: a buffer that does not lie within memory is not handed over again, whatever was written; one whose last byte is the last one is.
func TestTakeBeyond(t *testing.T) {
	for _, v := range drivers(apart(), 40) {
		for i, number := range v.In {
			if number == 0 {
				continue
			}
			at := v.At + 192*i
			for _, size := range []int{at - 100, at - 1, at, at + 1, at + 90, at + 180, at + 191, at + 192, at + 193} {
				for _, n := range []int{0, 1, 90, 91, 180, 181, 191, 192} {
					takes(t, fmt.Sprintf("%d bytes of buffer %d, in %d", n, i, size), givenBack(counted(size), v, i, n), v, i, n)
				}
			}
			v.At = 8192
			takes(t, "a buffer at the end", givenBack(counted(8192), v, i, 1), v, i, 1)
			v.At = at - 192*i
		}
	}
}

// TestTakeNotHandedOver: a buffer that is not handed over again stays so, and the others come as ever.
func TestTakeNotHandedOver(t *testing.T) {
	m, v, e := New(counted(1800), 0, 112, 264)
	if e != api.OK {
		t.Fatal(e)
	}
	m.Bytes = m.Bytes[:264+3*192+191]
	for _, i := range []int{1, 3, 0, 1, 2, 0} {
		m, v = takes(t, "one of many", givenBack(m, v, i, 7), v, i, 7)
	}
	if v.In[3] != 0 || min(v.In[0], v.In[1], v.In[2]) == 0 || len(v.Rx.Chains) != 3 || len(v.Rx.Free) != 1 {
		t.Fatalf("%+v", v)
	}
}

// TestTakeInAnyOrder: buffers come back in each order of four, each is answered with its own bytes, and handed over again.
func TestTakeInAnyOrder(t *testing.T) {
	for code, order := range orders() {
		v := driver(15, 5, apart(), chance(uint64(code)))
		m := counted(1800)
		lens := []int{180, 1, 0, 190}
		for k, i := range order {
			layUsed(m.Bytes, v.Rx.Base, 4, v.Rx.Last+uint16(k), api.Used{ID: uint32(v.In[i] - 1), Len: uint32(lens[i])}, v.Rx.Last+4)
		}
		for _, i := range order {
			m, v = takes(t, fmt.Sprintf("the order %v", order), m, v, i, lens[i])
		}
		takeCame(t, fmt.Sprintf("behind the order %v", order), m, v, m.Bytes, v, nil, api.ErrNone)
		if len(v.Rx.Chains) != 4 {
			t.Fatalf("%+v", v)
		}
	}
}

// TestTakeOverTheRing: where a buffer lies over the ring, it is read ahead of what is laid there.
func TestTakeOverTheRing(t *testing.T) {
	for at := range 320 {
		v := driver(15, 0, where{rx: 192, tx: 1700, at: at}, chance(uint64(at)))
		for i := range 4 {
			takes(t, fmt.Sprintf("buffer %d at %d", i, at+192*i), givenBack(counted(1900), v, i, 180), v, i, 180)
		}
	}
}

// P10.2: Send

// sendsNot fails, unless Send comes to this error, with all as it was.
func sendsNot(t *testing.T, what string, m api.Mem, v api.Net, frame []byte, err api.Errno) {
	t.Helper()
	was, wasV, wasFrame := bytes.Clone(m.Bytes), copyOf(v), bytes.Clone(frame)
	got, gotV, e := Send(m, v, frame)
	if e != err {
		t.Fatalf("%s: %d, not %d", what, e, err)
	}
	isAs(t, what, got, was)
	isNet(t, what, gotV, wasV)
	isAs(t, what+": handed in", m, was)
	isNet(t, what+": handed in", v, wasV)
	if !bytes.Equal(frame, wasFrame) {
		t.Fatalf("%s: the frame that was handed in was changed", what)
	}
}

// sends fails, unless Send comes to what P10.2 asks for, done once more on bytes. It answers what it came to.
func sends(t *testing.T, what string, m api.Mem, v api.Net, frame []byte) (api.Mem, api.Net) {
	t.Helper()
	was, wasV, wasFrame := bytes.Clone(m.Bytes), copyOf(v), bytes.Clone(frame)
	want, wantV := bytes.Clone(m.Bytes), copyOf(v)
	i := 0
	for v.Outs[i] != 0 {
		i++
	}
	at := v.At + 768 + 192*i
	copy(want[at:], frame)
	wantV.Tx, wantV.Outs[i] = added(want, v.Tx, api.Desc{Addr: uint64(at), Len: uint32(len(frame))})
	got, gotV, e := Send(m, v, frame)
	if e != api.OK || !Check(gotV) {
		t.Fatalf("%s: %d", what, e)
	}
	isAs(t, what, got, want)
	isNet(t, what, gotV, wantV)
	isAs(t, what+": handed in", m, was)
	isNet(t, what+": handed in", v, wasV)
	if !bytes.Equal(frame, wasFrame) {
		t.Fatalf("%s: the frame that was handed in was changed", what)
	}
	return got, gotV
}

// noFrames are frames of which none may be sent.
func noFrames() [][]byte {
	var l [][]byte
	for _, n := range []int{0, 181, 182, 191, 192, 193, 256, 4096, 8192, 65536 + 1} {
		l = append(l, dataOf(n, n))
	}
	return append(l, nil)
}

func TestSend(t *testing.T) {
	came := make(map[api.Errno]int)
	for seed := range uint64(8) {
		w := apart()
		w.tx, w.at = w.tx-int(seed%4), w.at+5*int(seed)
		for _, v := range drivers(w, seed) {
			for _, n := range []int{1, 2, 3, 90, 179, 180} {
				what := fmt.Sprintf("%d bytes, %v", n, v.Outs)
				if !slices.Contains(v.Outs[:], 0) || len(v.Tx.Free) == 0 {
					sendsNot(t, what, counted(1900), v, dataOf(n, n), api.ErrFull)
					came[api.ErrFull]++
					continue
				}
				sends(t, what, counted(1900), v, dataOf(n, n))
				came[api.OK]++
			}
			for _, frame := range noFrames() {
				sendsNot(t, "no frame", counted(1900), v, frame, api.ErrArg)
			}
		}
	}
	if came[api.OK] < 300 || came[api.ErrFull] < 40 {
		t.Errorf("errors: %v", came)
	}
}

// TestAllFour: each of four is sent in the next buffer, then none is; the one in the middle that came back is the next one.
func TestAllFour(t *testing.T) {
	m, v, e := New(counted(1900), 5, 120, 240)
	if e != api.OK {
		t.Fatal(e)
	}
	for i, n := range []int{180, 1, 77, 179} {
		m, v = sends(t, fmt.Sprintf("the %d-th", i), m, v, dataOf(n, i))
		if v.Outs[i] != i+1 {
			t.Fatalf("the %d-th: %v", i, v.Outs)
		}
	}
	sendsNot(t, "all are used", m, v, dataOf(9, 9), api.ErrFull)
	for _, i := range []int{2, 0, 1, 2, 3} {
		layUsed(m.Bytes, 120, 4, v.Tx.Last, api.Used{ID: uint32(v.Outs[i] - 1)}, v.Tx.Last+1)
		v = reaps(t, "one came back", m, v, i)
		m, v = sends(t, "the one that came back", m, v, dataOf(20+i, i))
		if v.Outs[i] == 0 {
			t.Fatalf("%v", v.Outs)
		}
		sendsNot(t, "all are used", m, v, dataOf(9, 9), api.ErrFull)
	}
}

// TestSendOverTheRing: where a buffer lies over the ring, the frame is put first, and the ring's numbers then.
func TestSendOverTheRing(t *testing.T) {
	for at := range 320 {
		for outs := range 8 {
			v := driver(3, outs, where{rx: 1750, tx: 960, at: at}, chance(uint64(at*8+outs)))
			if len(v.Tx.Free) > 0 {
				sends(t, fmt.Sprintf("buffers at %d, %v", at, v.Outs), counted(1900), v, dataOf(180, at))
			}
		}
	}
}

// TestSendRange: a frame's bytes lie within memory, or it is ErrRange, which comes ahead of layer 8's errors; of the bytes of the buffer behind them nobody asks.
func TestSendRange(t *testing.T) {
	for outs, first := range []int{0, 1, 0, 2, 0, 1, 0, 3} {
		v := driver(1, outs, apart(), chance(uint64(outs)))
		v.Tx.Free, v.Tx.Chains = upTo(4), nil
		for i, number := range v.Outs {
			if number != 0 {
				v.Tx.Free = slices.Delete(v.Tx.Free, 0, 1)
				v.Outs[i] = 4 - len(v.Tx.Free)
				v.Tx.Chains = append(v.Tx.Chains, api.Chain{Head: v.Outs[i] - 1, Descs: []int{v.Outs[i] - 1}})
			}
		}
		at := v.At + 768 + 192*first
		for _, n := range []int{1, 2, 90, 180} {
			what := fmt.Sprintf("%d bytes at %d", n, at)
			for _, size := range []int{at - 200, at - 1, at, at + n - 1} {
				sendsNot(t, what, counted(size), v, dataOf(n, n), api.ErrRange)
			}
			for _, size := range []int{at + n, at + n + 1, at + 192} {
				sends(t, what, counted(size), v, dataOf(n, n))
			}
			far := copyOf(v)
			far.Tx.Base = 8192
			sendsNot(t, what+", and no ring", counted(at+n-1), far, dataOf(n, n), api.ErrRange)
			sendsNot(t, what+", and no ring", api.Mem{}, far, dataOf(n, n), api.ErrRange)
			sendsNot(t, what+", but no ring", counted(at+n), far, dataOf(n, n), api.ErrRing)
		}
		for _, place := range []int{7000, 8191, 8192} {
			v.At = place
			last := place + 768 + 192*first + 4
			if last < 8192 {
				sends(t, "the end of all memory", counted(8192), v, dataOf(5, 5))
			} else {
				sendsNot(t, "the end of all memory", counted(8192), v, dataOf(5, 5), api.ErrRange)
			}
			// More memory than there may be has the bytes, or it has them not: no ring lies in it.
			sendsNot(t, "too much memory", counted(10000), v, dataOf(5, 5), api.ErrRing)
			sendsNot(t, "too much memory", counted(max(last+1, 8193)), v, dataOf(5, 5), api.ErrRing)
			if last > 8192 {
				sendsNot(t, "too much memory", counted(last), v, dataOf(5, 5), api.ErrRange)
			}
		}
	}
}

// TestSendAdd: layer 8's Add's errors come last: no ring, and none that is free.
func TestSendAdd(t *testing.T) {
	for _, v := range drivers(apart(), 50) {
		if !slices.Contains(v.Outs[:], 0) {
			continue
		}
		for _, base := range []int{1800 - 111, 1800, 8192, 1 << 32, math.MaxInt} {
			v.Tx.Base = base
			sendsNot(t, "no ring", counted(1800), v, dataOf(7, 7), api.ErrRing)
		}
		v.Tx.Base = 120
		sendsNot(t, "too much memory", counted(8193), v, dataOf(7, 7), api.ErrRing)
	}
	for free := range 4 {
		v := driver(3, 0, apart(), chance(uint64(free)))
		v.Tx.Free, v.Outs[1] = upTo(free), free+1
		v.Tx.Chains = []api.Chain{{Head: free, Descs: []int{free}}}
		for i := free + 1; i < 4; i++ {
			v.Tx.Chains[0].Descs = append(v.Tx.Chains[0].Descs, i)
		}
		if free > 0 {
			sends(t, fmt.Sprintf("%d are free", free), counted(1800), v, dataOf(7, 7))
		} else {
			sendsNot(t, "none is free", counted(1800), v, dataOf(7, 7), api.ErrFull)
			v.Tx.Base = 1800
			sendsNot(t, "none is free, and no ring", counted(1800), v, dataOf(7, 7), api.ErrRing)
		}
	}
}

// TestSendOrder: ErrArg comes ahead of ErrFull, that ahead of ErrRange, that ahead of layer 8's errors.
func TestSendOrder(t *testing.T) {
	for outs := range 16 {
		v := driver(9, outs, apart(), chance(uint64(outs)))
		for _, n := range []int{0, 100, 240, 1010, 1800, 8193} {
			for _, base := range []int{120, 8192} {
				v.Tx.Base = base
				for _, frame := range noFrames() {
					sendsNot(t, "no frame", counted(n), v, frame, api.ErrArg)
				}
				if outs == 15 {
					sendsNot(t, "all are used", counted(n), v, dataOf(180, n), api.ErrFull)
				}
			}
		}
	}
}

// P10.2: Reap

// reapCame fails, unless Reap comes to this.
func reapCame(t *testing.T, what string, m api.Mem, v, want api.Net, err api.Errno) {
	t.Helper()
	was, wasV := bytes.Clone(m.Bytes), copyOf(v)
	got, e := Reap(m, v)
	if e != err {
		t.Fatalf("%s: %d, not %d", what, e, err)
	}
	isNet(t, what, got, want)
	isAs(t, what+": handed in", m, was)
	isNet(t, what+": handed in", v, wasV)
	if Check(got) != Check(v) {
		t.Fatalf("%s: %+v Checks no more", what, got)
	}
}

// reaps fails, unless the i-th buffer is used no more behind Reap. It answers what that came to.
func reaps(t *testing.T, what string, m api.Mem, v api.Net, i int) api.Net {
	t.Helper()
	want := copyOf(v)
	want.Tx, want.Outs[i] = freed(v.Tx, v.Outs[i]-1), 0
	reapCame(t, what, m, v, want, api.OK)
	return want
}

func TestReap(t *testing.T) {
	for seed := range uint64(4) {
		for _, v := range drivers(apart(), 60+seed) {
			for i, number := range v.Outs {
				for k := range v.Tx.Chains {
					v.Tx.Chains[k].Room = 5
				}
				// How much was written is nobody's, as long as it may be.
				for n := 0; number != 0 && n <= 5; n++ {
					for _, size := range []int{232, 240, 1800} {
						m := counted(size)
						layUsed(m.Bytes, v.Tx.Base, 4, v.Tx.Last, api.Used{ID: uint32(number - 1), Len: uint32(n)}, v.Tx.Last+1)
						reaps(t, fmt.Sprintf("buffer %d", i), m, v, i)
					}
				}
			}
		}
	}
}

func TestReapNothing(t *testing.T) {
	for seed := range uint64(3) {
		for _, v := range drivers(apart(), 70+seed) {
			base, last := v.Tx.Base, v.Tx.Last
			m := counted(1800)
			layUsed(m.Bytes, base, 4, last, api.Used{}, last)
			reapCame(t, "nothing came back", m, v, v, api.ErrNone)
			for _, ahead := range []uint16{uint16(len(v.Tx.Chains) + 1), 5, 17, 32768, 65535} {
				want := copyOf(v)
				want.Tx.Last = last + ahead
				layUsed(m.Bytes, base, 4, last, api.Used{ID: uint32(v.Outs[0] - 1)}, last+ahead)
				reapCame(t, "too many came back", m, v, want, api.ErrUsed)
			}
			if len(v.Tx.Chains) == 0 {
				continue
			}
			want := copyOf(v)
			want.Tx.Last++
			c := v.Tx.Chains[0]
			wrong := []api.Used{{ID: 4}, {ID: 1<<32 - 1}, {ID: uint32(c.Head) + 1<<16}, {ID: uint32(c.Head), Len: 1}, {ID: uint32(c.Head), Len: 1<<32 - 1}}
			for _, d := range append(v.Tx.Free, c.Descs[1:]...) {
				wrong = append(wrong, api.Used{ID: uint32(d)})
			}
			for _, u := range wrong {
				layUsed(m.Bytes, base, 4, last, u, last+1)
				reapCame(t, fmt.Sprintf("%+v", u), m, v, want, api.ErrUsed)
			}
		}
	}
}

func TestReapNoRing(t *testing.T) {
	for _, v := range drivers(apart(), 80) {
		for _, n := range []int{0, 1, 231, 8193} {
			reapCame(t, "no ring", counted(n), v, v, api.ErrRing)
		}
		for _, base := range []int{1800 - 111, 1800, 8192, math.MaxInt} {
			v.Tx.Base = base
			reapCame(t, "no ring", counted(1800), v, v, api.ErrRing)
		}
	}
}

func TestReapInAnyOrder(t *testing.T) {
	for code, order := range orders() {
		v := driver(6, 15, apart(), chance(uint64(code)))
		m := counted(1800)
		for k, i := range order {
			layUsed(m.Bytes, v.Tx.Base, 4, v.Tx.Last+uint16(k), api.Used{ID: uint32(v.Outs[i] - 1)}, v.Tx.Last+4)
		}
		for _, i := range order {
			v = reaps(t, fmt.Sprintf("the order %v", order), m, v, i)
		}
		reapCame(t, fmt.Sprintf("behind the order %v", order), m, v, v, api.ErrNone)
		if v.Outs != [4]int{} || len(v.Tx.Free) != 4 {
			t.Fatalf("%+v", v)
		}
	}
}

// noNets are drivers that do not Check.
func noNets() []api.Net {
	l := []api.Net{{}, {Rx: api.Queue{Size: 4, Free: upTo(4)}}, {Tx: api.Queue{Size: 4, Free: upTo(4)}}}
	for _, change := range []func(q *api.Queue, n *[4]int){
		func(q *api.Queue, n *[4]int) { q.Base = -1 },
		func(q *api.Queue, n *[4]int) { q.Size = 8 },
		func(q *api.Queue, n *[4]int) { q.Free = nil },
		func(q *api.Queue, n *[4]int) { q.Chains = append(q.Chains, api.Chain{Head: 20, Descs: []int{20}}) },
		func(q *api.Queue, n *[4]int) { n[1] = 3 },
		func(q *api.Queue, n *[4]int) { n[1] = 0 },
		func(q *api.Queue, n *[4]int) { n[0] = 2 },
		func(q *api.Queue, n *[4]int) { n[3] = -1 },
		func(q *api.Queue, n *[4]int) { n[3] = math.MaxInt },
	} {
		q, numbers := twoLent()
		change(&q, &numbers)
		l = append(l, either(q, numbers)...)
	}
	for _, v := range either(twoLent()) {
		for _, at := range []int{-1, 8193, math.MinInt, math.MaxInt} {
			v.At = at
			l = append(l, v)
		}
	}
	return l
}

// TestFormFirst: ErrForm comes ahead of all else.
func TestFormFirst(t *testing.T) {
	for i, v := range noNets() {
		what := fmt.Sprintf("a driver that may not be, %d", i)
		for _, n := range []int{0, 200, 1900, 8193} {
			m := counted(n)
			if n > 1000 {
				layUsed(m.Bytes, 4, 4, 7, api.Used{ID: 3, Len: 1}, 8)
				layUsed(m.Bytes, 120, 4, 1, api.Used{ID: 2}, 2)
			}
			takeCame(t, what, m, v, m.Bytes, v, nil, api.ErrForm)
			reapCame(t, what, m, v, v, api.ErrForm)
			for _, frame := range append(noFrames(), dataOf(7, 7)) {
				sendsNot(t, what, m, v, frame, api.ErrForm)
			}
		}
	}
}

// P10.3

// asked is a chain that lies in a memory, a device's side, and what the chain has.
type asked struct {
	m     api.Mem
	s     api.Served
	order []int
	parts []api.Buf
}

// askedOf answers a chain of these parts, in a ring of n that lies from 5 on.
func askedOf(n int, parts []api.Buf) asked {
	a := asked{m: counted(8192), s: api.Served{Base: 5, Size: n, Seen: 65535, Used: 40001}, parts: parts}
	a.order = shuffled(n, chance(uint64(n+31*len(parts))))
	for i, p := range parts {
		d := api.Desc{Addr: uint64(p.At), Len: uint32(p.Len)}
		if i < len(parts)-1 {
			d.Flags, d.Next = 1, uint16(a.order[i+1])
		}
		if p.Write {
			d.Flags |= 2
		}
		layDesc(a.m.Bytes, 5, a.order[i], d)
	}
	layAvail(a.m.Bytes, 5, n, 65535, a.order[0], 0)
	return a
}

// bringCame fails, unless Bring comes to this.
func bringCame(t *testing.T, what string, m api.Mem, s api.Served, frame, want []byte, wantS api.Served, err api.Errno) {
	t.Helper()
	was, wasFrame := bytes.Clone(m.Bytes), bytes.Clone(frame)
	got, gotS, e := Bring(m, s, frame)
	if e != err || gotS != wantS {
		t.Fatalf("%s: %+v, %d, not %+v, %d", what, gotS, e, wantS, err)
	}
	isAs(t, what, got, want)
	isAs(t, what+": handed in", m, was)
	if !bytes.Equal(frame, wasFrame) {
		t.Fatalf("%s: the frame that was handed in was changed", what)
	}
}

// fetchCame fails, unless Fetch comes to this.
func fetchCame(t *testing.T, what string, m api.Mem, s api.Served, want []byte, wantS api.Served, frame []byte, err api.Errno) {
	t.Helper()
	was := bytes.Clone(m.Bytes)
	got, gotS, b, e := Fetch(m, s)
	if e != err || gotS != wantS || !bytes.Equal(b, frame) {
		t.Fatalf("%s: %+v, %d bytes, %d, not %+v, %d bytes, %d", what, gotS, len(b), e, wantS, len(frame), err)
	}
	isAs(t, what, got, want)
	isAs(t, what+": handed in", m, was)
}

// given answers a device's side behind a chain that it gave back, which is laid over bytes.
func (a asked) given(b []byte, n int) api.Served {
	s := a.s
	layUsed(b, s.Base, s.Size, s.Used, api.Used{ID: uint32(a.order[0]), Len: uint32(n)}, s.Used+1)
	s.Seen++
	s.Used++
	return s
}

// brings fails, unless a frame is put into the first part, and given back with its length.
func (a asked) brings(t *testing.T, what string, frame []byte) {
	t.Helper()
	want := bytes.Clone(a.m.Bytes)
	copy(want[a.parts[0].At:], frame)
	s := a.given(want, len(frame))
	bringCame(t, what, a.m, a.s, frame, want, s, api.OK)
}

// bringsNot fails, unless the chain is passed over, and nothing else is done.
func (a asked) bringsNot(t *testing.T, what string, frame []byte) {
	t.Helper()
	s := a.s
	s.Seen++
	bringCame(t, what, a.m, a.s, frame, a.m.Bytes, s, api.ErrRing)
}

// fetches fails, unless the bytes of all parts that may not be written come, and are given back with 0.
func (a asked) fetches(t *testing.T, what string) {
	t.Helper()
	var frame []byte
	for _, p := range a.parts {
		for i := 0; i < p.Len && !p.Write && len(frame) < 4096; i++ {
			frame = append(frame, a.m.Bytes[p.At+i])
		}
	}
	want := bytes.Clone(a.m.Bytes)
	s := a.given(want, 0)
	fetchCame(t, what, a.m, a.s, want, s, frame, api.OK)
}

// fetchesNot fails, unless the chain is passed over, and nothing else is done.
func (a asked) fetchesNot(t *testing.T, what string) {
	t.Helper()
	s := a.s
	s.Seen++
	fetchCame(t, what, a.m, a.s, a.m.Bytes, s, nil, api.ErrRing)
}

func TestBring(t *testing.T) {
	for _, n := range []int{1, 2, 4, 8, 16} {
		for _, room := range []int{1, 2, 3, 179, 180, 192, 4096, 7000} {
			for _, size := range []int{0, 1, 2, 3, 4, 178, 179, 180, 181, 191, 192, 193, 4096, 4097, 6999, 7000, 7001, 8192, 65536 + 1} {
				for _, write := range []bool{true, false} {
					a := askedOf(n, []api.Buf{{At: 1000, Len: room, Write: write}})
					what := fmt.Sprintf("%d bytes into %d, %v", size, room, write)
					if write && size <= room {
						a.brings(t, what, dataOf(size, room))
					} else {
						a.bringsNot(t, what, dataOf(size, room))
					}
				}
			}
		}
	}
	askedOf(4, []api.Buf{{At: 8191, Len: 1, Write: true}}).brings(t, "memory's last byte", []byte{7})
	askedOf(4, []api.Buf{{At: 0, Len: 8192, Write: true}}).brings(t, "all of memory", dataOf(8192, 1))
	askedOf(4, []api.Buf{{At: 1000, Len: 9, Write: true}}).brings(t, "nothing", nil)
}

// TestBringParts: the first part alone counts, whatever is behind it.
func TestBringParts(t *testing.T) {
	for n := 2; n <= 16; n++ {
		for _, write := range []bool{true, false} {
			for _, others := range []int{1, 50, 3000} {
				parts := []api.Buf{{At: 600, Len: 40, Write: write}}
				for i := 1; i < n; i++ {
					parts = append(parts, api.Buf{At: 620 + 300*i, Len: others, Write: i%2 == others%2})
				}
				a := askedOf(16, parts)
				what := fmt.Sprintf("%d parts of %d, %v", n, others, write)
				for _, size := range []int{0, 1, 39, 40, 41, 90} {
					if write && size <= 40 {
						a.brings(t, what, dataOf(size, n))
					} else {
						a.bringsNot(t, what, dataOf(size, n))
					}
				}
			}
		}
	}
}

// TestBringOverTheRing: the frame is put first, then it is given back: what is used stands over it.
func TestBringOverTheRing(t *testing.T) {
	for at := range 150 {
		askedOf(4, []api.Buf{{At: at, Len: 30, Write: true}}).brings(t, fmt.Sprintf("a frame at %d", at), dataOf(30, at))
	}
}

func TestFetch(t *testing.T) {
	for _, n := range []int{1, 2, 4, 8, 16} {
		for _, size := range []int{1, 2, 180, 181, 192, 4095, 4096, 4097, 7000} {
			for _, write := range []bool{false, true} {
				askedOf(n, []api.Buf{{At: 1000, Len: size, Write: write}}).fetches(t, fmt.Sprintf("%d bytes, %v", size, write))
			}
		}
	}
	askedOf(4, []api.Buf{{At: 8191, Len: 1}}).fetches(t, "memory's last byte")
	askedOf(4, []api.Buf{{At: 0, Len: 8192}}).fetches(t, "all of memory")
}

// TestFetchParts: parts that may be written are passed over, wherever they stand.
func TestFetchParts(t *testing.T) {
	for n := 1; n <= 16; n++ {
		masks := []int{0, 1, 2, 1 << (n - 1), 1<<n - 1, 1<<n - 2, 0x5555, 0xAAAA}
		for code := range 1 << min(n, 4) {
			masks = append(masks, code)
		}
		for _, mask := range masks {
			var parts []api.Buf
			for i := range n {
				parts = append(parts, api.Buf{At: 440 + 301*i, Len: 1 + (i*67+n)%190, Write: mask>>i%2 == 1})
			}
			askedOf(16, parts).fetches(t, fmt.Sprintf("%d parts, written as %b", n, mask))
		}
	}
}

// TestFetchMost: in all 4095, 4096 and 4097 bytes and more, also where a part is cut, or comes behind them.
func TestFetchMost(t *testing.T) {
	for _, lens := range [][]int{
		{4095}, {4096}, {4097}, {2000, 2095}, {2000, 2096}, {2000, 2097}, {4095, 1}, {4095, 1, 1}, {4095, 2, 3}, {4096, 1}, {4097, 1}, {1, 4095}, {1, 4096},
		{1000, 1000, 1000, 1095}, {1000, 1000, 1000, 1096}, {1000, 1000, 1000, 1097}, {6000, 6000, 6000, 6000}, {1, 7000, 1},
	} {
		var parts, mixed []api.Buf
		for i, n := range lens {
			parts = append(parts, api.Buf{At: 600 + 101*i, Len: n})
			mixed = append(mixed, api.Buf{At: 600 + 101*i, Len: n}, api.Buf{At: 700, Len: 3000, Write: true})
		}
		askedOf(4, parts).fetches(t, fmt.Sprintf("%v", lens))
		askedOf(16, mixed).fetches(t, fmt.Sprintf("%v, mixed", lens))
		slices.Reverse(mixed)
		askedOf(16, mixed).fetches(t, fmt.Sprintf("%v, mixed, from behind", lens))
	}
	var parts []api.Buf
	for range 16 {
		parts = append(parts, api.Buf{Len: 8192})
	}
	askedOf(16, parts).fetches(t, "all of memory, sixteen times")
	parts = nil
	for i := range 16 {
		parts = append(parts, api.Buf{At: 500 + i, Len: 256 + i/15})
	}
	askedOf(16, parts).fetches(t, "sixteen parts, one byte too many")
}

// TestFetchOverTheRing: what is read is read ahead of what is given back.
func TestFetchOverTheRing(t *testing.T) {
	for at := range 150 {
		askedOf(4, []api.Buf{{At: at, Len: 30}}).fetches(t, fmt.Sprintf("a frame at %d", at))
	}
}

// TestNext: what layer 8's Next calls an error is one, with what that says of how far it came.
func TestNext(t *testing.T) {
	frames := [][]byte{nil, {7}, dataOf(193, 1), dataOf(9000, 1)}
	came := func(what string, m api.Mem, s, wantS api.Served, err api.Errno) {
		t.Helper()
		fetchCame(t, what, m, s, m.Bytes, wantS, nil, err)
		for _, frame := range frames {
			bringCame(t, what, m, s, frame, m.Bytes, wantS, err)
		}
	}
	for _, i := range []uint16{0, 1, 65535} {
		m := counted(2000)
		layAvail(m.Bytes, 5, 4, i, 3, i)
		s := api.Served{Base: 5, Size: 4, Seen: i, Used: 9}
		came("nothing waits", m, s, s, api.ErrNone)
	}
	for _, s := range []api.Served{{}, {Size: 3}, {Base: -1, Size: 4}, {Base: 2000 - 111, Size: 4}, {Base: 2000 - 423, Size: 16}, {Base: math.MaxInt, Size: 4}, {Size: -4}, {Base: 5, Size: 17}, {Base: math.MinInt, Size: math.MinInt}} {
		came("no ring", counted(2000), s, s, api.ErrRing)
		came("no ring", api.Mem{}, s, s, api.ErrRing)
	}
	s := api.Served{Base: 5, Size: 4}
	came("too much memory", counted(8193), s, s, api.ErrRing)
}

// TestNextParts: a chain that may not be is passed over, and nothing else is done.
func TestNextParts(t *testing.T) {
	refuses := func(what string, a asked) {
		t.Helper()
		a.fetchesNot(t, what)
		for _, frame := range [][]byte{nil, {7}, dataOf(193, 1)} {
			a.bringsNot(t, what, frame)
		}
	}
	for i := range 3 {
		for _, p := range []api.Buf{{At: 700}, {At: 8191, Len: 2}, {At: 8192, Len: 1}, {At: 8193, Len: 1}, {At: 1 << 40, Len: 16}, {At: 0, Len: 8193}} {
			for _, write := range []bool{true, false} {
				parts := []api.Buf{{At: 500, Len: 180, Write: true}, {At: 900, Len: 9}, {At: 1000, Len: 50, Write: true}}
				p.Write = write
				parts[i] = p
				refuses(fmt.Sprintf("%+v", p), askedOf(4, parts))
			}
		}
		parts := []api.Buf{{At: 500, Len: 180, Write: true}, {At: 900, Len: 9}, {At: 1000, Len: 50, Write: true}}
		a := askedOf(4, parts)
		layDesc(a.m.Bytes, 5, a.order[i], api.Desc{Addr: 700, Len: 16, Flags: 3, Next: uint16(a.order[0])})
		refuses("a chain that goes round", a)
		layDesc(a.m.Bytes, 5, a.order[i], api.Desc{Addr: 700, Len: 16, Flags: 3, Next: 4})
		refuses("a chain that goes beyond", a)
	}
	for _, head := range []int{4, 5, 65535} {
		a := askedOf(4, []api.Buf{{At: 500, Len: 180, Write: true}})
		layAvail(a.m.Bytes, 5, 4, 65535, head, 0)
		refuses("no head", a)
	}
}

// P10.4, and what a driver and a card do together.

// both are a driver and a card of two rings, and what is to be told of them.
type both struct {
	m       api.Mem
	v       api.Net
	rx, tx  api.Served
	brought [][]byte // not taken
	sent    [][]byte // not fetched
	fetched int      // not reaped
	count   map[string]int
}

// bothAt answers two of which all numbers stand at i, a multiple of four.
func bothAt(t *testing.T, w where, size int, i uint16) *both {
	t.Helper()
	m, v, e := New(counted(size), w.rx, w.tx, w.at)
	if e != api.OK {
		t.Fatal(e)
	}
	p := &both{m: m, v: v, rx: queue.Serve(w.rx, 4), tx: queue.Serve(w.tx, 4), count: make(map[string]int)}
	p.v.Rx.Avail, p.v.Rx.Last, p.v.Tx.Avail, p.v.Tx.Last = i+4, i, i, i
	p.rx.Seen, p.rx.Used, p.tx.Seen, p.tx.Used = i, i, i, i
	r := layoutOf(4)
	layLow(m.Bytes, w.rx+r.avail, 2, uint64(i+4))
	layLow(m.Bytes, w.rx+r.used, 2, uint64(i))
	layLow(m.Bytes, w.tx+r.avail, 2, uint64(i))
	layLow(m.Bytes, w.tx+r.used, 2, uint64(i))
	return p
}

// is fails, unless an error is this one, and counts it.
func (p *both) is(t *testing.T, what string, e, err api.Errno) {
	t.Helper()
	if e != err {
		t.Fatalf("%s: %d, not %d", what, e, err)
	}
	if !Check(p.v) || len(p.v.Rx.Chains) != 4 || len(p.v.Tx.Chains) != len(p.sent)+p.fetched {
		t.Fatalf("%s: %+v", what, p.v)
	}
	p.count[fmt.Sprint(what, e)]++
}

// bring brings a frame.
func (p *both) bring(t *testing.T, frame []byte) {
	t.Helper()
	m, s, e := Bring(p.m, p.rx, frame)
	p.m, p.rx = m, s
	if len(p.brought) == 4 {
		p.is(t, "Bring", e, api.ErrNone)
		return
	}
	p.is(t, "Bring", e, api.OK)
	p.brought = append(p.brought, frame)
}

// take takes one.
func (p *both) take(t *testing.T) {
	t.Helper()
	m, v, frame, e := Take(p.m, p.v)
	p.m, p.v = m, v
	if len(p.brought) == 0 {
		p.is(t, "Take", e, api.ErrNone)
		return
	}
	want := p.brought[0]
	p.brought = p.brought[1:]
	if n := len(want); n < 1 || n > 180 {
		p.is(t, "Take", e, api.ErrDrop)
		return
	}
	p.is(t, "Take", e, api.OK)
	if !bytes.Equal(frame, want) {
		t.Fatalf("Take: %x, not %x", frame, want)
	}
}

// send sends one.
func (p *both) send(t *testing.T, frame []byte) {
	t.Helper()
	m, v, e := Send(p.m, p.v, frame)
	p.m, p.v = m, v
	switch n := len(frame); {
	case n < 1 || n > 180:
		p.is(t, "Send", e, api.ErrArg)
	case len(p.sent)+p.fetched == 4:
		p.is(t, "Send", e, api.ErrFull)
	default:
		p.sent = append(p.sent, frame)
		p.is(t, "Send", e, api.OK)
	}
}

// fetch fetches one.
func (p *both) fetch(t *testing.T) {
	t.Helper()
	m, s, frame, e := Fetch(p.m, p.tx)
	p.m, p.tx = m, s
	if len(p.sent) == 0 {
		p.is(t, "Fetch", e, api.ErrNone)
		return
	}
	want := p.sent[0]
	p.sent = p.sent[1:]
	p.fetched++
	p.is(t, "Fetch", e, api.OK)
	if !bytes.Equal(frame, want) {
		t.Fatalf("Fetch: %x, not %x", frame, want)
	}
}

// reap looks what went.
func (p *both) reap(t *testing.T) {
	t.Helper()
	v, e := Reap(p.m, p.v)
	p.v = v
	if p.fetched == 0 {
		p.is(t, "Reap", e, api.ErrNone)
		return
	}
	p.fetched--
	p.is(t, "Reap", e, api.OK)
}

// TestInOrder: what is brought is taken, what is sent is fetched, in order, each once, while the indices turn round.
func TestInOrder(t *testing.T) {
	for seed := range 12 {
		next := chance(uint64(seed))
		p := bothAt(t, where{seed, 130, 250 + seed}, 1900, uint16(65536-12*seed))
		lens := []int{0, 1, 2, 179, 180, 181, 192}
		frame := func() []byte {
			if next(2) == 0 {
				return dataOf(lens[next(7)], next(1<<30))
			}
			return dataOf(1+next(180), next(1<<30))
		}
		for range 800 {
			switch next(5) {
			case 0:
				p.bring(t, frame())
			case 1:
				p.take(t)
			case 2:
				p.send(t, frame())
			case 3:
				p.fetch(t)
			case 4:
				p.reap(t)
			}
		}
		for _, what := range []string{"Bring0", "Bring7", "Take0", "Take7", "Take180", "Send0", "Send2", "Send4", "Fetch0", "Fetch7", "Reap0", "Reap7"} {
			if p.count[what] < 3 {
				t.Errorf("%s: %v", what, p.count)
			}
		}
	}
}

// TestAllTheWayRound: all indices go once all the way round 2^16, with none, some and four that wait.
func TestAllTheWayRound(t *testing.T) {
	p := bothAt(t, where{0, 112, 224}, 1760, 0)
	for i := range 1<<16 + 9 {
		for len(p.brought) < 1+i%4 {
			p.bring(t, dataOf(1+i%180, i))
			p.send(t, dataOf(1+(i+90)%180, i))
		}
		p.take(t)
		p.fetch(t)
		p.reap(t)
	}
	if p.v.Rx.Avail < 9+4 || p.v.Rx.Avail > 1000 || p.v.Tx.Last < 9 {
		t.Errorf("%+v", p.v)
	}
}

// TestGivenInAnotherOrder: a card that has taken all four gives them back in each order; what is taken is what it says, each once.
func TestGivenInAnotherOrder(t *testing.T) {
	for _, order := range orders() {
		p := bothAt(t, apart(), 1800, 65532)
		for round := range 3 {
			var heads []int
			var parts [][]api.Buf
			for range 4 {
				s, head, l, e := queue.Next(p.m, p.rx)
				if e != api.OK {
					t.Fatal(e)
				}
				p.rx, heads, parts = s, append(heads, head), append(parts, l)
			}
			for k, i := range order {
				frame := dataOf(20+k, round)
				copy(p.m.Bytes[parts[i][0].At:], frame)
				m, s, e := queue.Give(p.m, p.rx, heads[i], len(frame))
				if e != api.OK {
					t.Fatal(e)
				}
				p.m, p.rx, p.brought = m, s, append(p.brought, frame)
			}
			for range 5 {
				p.take(t)
			}
		}
	}
}

// TestWhateverACardSays: whatever is written into the rings, the driver Checks, and what is taken was brought to a buffer that was handed over.
func TestWhateverACardSays(t *testing.T) {
	came := make(map[api.Errno]int)
	for seed := range 30 {
		next := chance(uint64(900 + seed))
		m, v, _ := New(counted(1800), 0, 120, 240)
		if seed%3 == 0 {
			m.Bytes = m.Bytes[:240+192*4-next(200)]
		}
		for range 400 {
			was := copyOf(v)
			m = api.Mem{Bytes: bytes.Clone(m.Bytes)}
			u := api.Used{ID: uint32(next(5)), Len: uint32([]int{0, 1, 100, 180, 181, 192, 193}[next(7)])}
			var e api.Errno
			switch next(3) {
			case 0:
				layUsed(m.Bytes, 0, 4, v.Rx.Last, u, v.Rx.Last+uint16(next(12)/2))
				var frame []byte
				before := m.Bytes
				m, v, frame, e = Take(m, v)
				i := slices.Index(was.In[:], int(u.ID)+1)
				if e == api.OK && (i < 0 || len(frame) != int(u.Len) || !bytes.Equal(frame, before[240+192*i:240+192*i+len(frame)])) || e != api.OK && len(frame) > 0 {
					t.Fatalf("%+v: %x, %d", u, frame, e)
				}
			case 1:
				m, v, e = Send(m, v, dataOf(next(190), next(99)))
			case 2:
				u.Len = uint32(next(8) / 7)
				layUsed(m.Bytes, 120, 4, v.Tx.Last, u, v.Tx.Last+uint16(next(12)/2))
				v, e = Reap(m, v)
			}
			if !Check(v) {
				t.Fatalf("%+v", v)
			}
			came[e]++
		}
	}
	for _, e := range []api.Errno{api.OK, api.ErrUsed, api.ErrNone, api.ErrDrop, api.ErrFull, api.ErrRange, api.ErrArg} {
		if came[e] < 20 {
			t.Errorf("%d: %v", e, came)
		}
	}
}

// TestWhateverADriverSays: whatever is written into a ring, a card ends, and changes nothing but what P10.3 says.
func TestWhateverADriverSays(t *testing.T) {
	came := make(map[string]int)
	for seed := range 4000 {
		next := chance(uint64(seed))
		m := counted(1500)
		for i := range 16 {
			d := api.Desc{Addr: uint64(next(1501)), Len: uint32([]int{0, 1, 30, 180, 192, 900, 1500}[next(7)]), Flags: uint16(next(8)), Next: uint16(next(17))}
			if next(2) == 0 {
				d.Addr, d.Len = uint64(next(1000)), uint32(1+next(400))
			}
			layDesc(m.Bytes, 0, i, d)
		}
		s := api.Served{Size: 16, Seen: uint16(next(65536)), Used: uint16(next(65536))}
		layAvail(m.Bytes, 0, 16, s.Seen, next(17), s.Seen+1)
		frame := dataOf(next(300), seed)
		after, head, l, e := queue.Next(m, s)
		if e != api.OK {
			bringCame(t, "no chain", m, s, frame, m.Bytes, after, e)
			fetchCame(t, "no chain", m, s, m.Bytes, after, nil, e)
			came["none"]++
			continue
		}
		a := asked{m: m, s: s, order: []int{head}, parts: l}
		a.fetches(t, "any chain")
		if l[0].Write && l[0].Len >= len(frame) {
			a.brings(t, "any chain", frame)
			came["brought"]++
		} else {
			a.bringsNot(t, "any chain", frame)
			came["refused"]++
		}
	}
	if min(came["none"], came["brought"], came["refused"]) < 100 {
		t.Errorf("%v", came)
	}
}

// R3: lists that nobody shares.

// wipe overwrites a list, and what room there is behind it.
func wipe[T any](l []T, with T) {
	l = l[:cap(l)]
	for i := range l {
		l[i] = with
	}
}

// wipeNet overwrites all lists of a driver.
func wipeNet(v api.Net) {
	for _, q := range []api.Queue{v.Rx, v.Tx} {
		for _, c := range q.Chains {
			wipe(c.Descs, -7)
		}
		wipe(q.Free, -7)
		wipe(q.Chains, api.Chain{Head: -7})
	}
}

// TestNothingShared: what is answered is the caller's own, also where a call is refused.
func TestNothingShared(t *testing.T) {
	for _, n := range []int{0, 260, 700, 1800, 8193} {
		for _, v := range append(drivers(apart(), 91), noNets()...) {
			v = copyOf(v)
			was := copyOf(v)
			for ahead := range uint16(3) {
				m := counted(n)
				if n > 250 {
					layUsed(m.Bytes, apart().rx, 4, v.Rx.Last, api.Used{ID: uint32(v.In[1] - 1), Len: 9}, v.Rx.Last+ahead)
					layUsed(m.Bytes, apart().tx, 4, v.Tx.Last, api.Used{ID: uint32(v.Outs[1] - 1)}, v.Tx.Last+ahead)
				}
				wasM := bytes.Clone(m.Bytes)
				got, gotV, b, _ := Take(m, v)
				wipe(got.Bytes, 0xEE)
				wipe(b, 0xEE)
				wipeNet(gotV)
				gotV, _ = Reap(m, v)
				wipeNet(gotV)
				for _, size := range []int{0, 9, 180, 181} {
					frame := dataOf(size, 1)
					got, gotV, _ = Send(m, v, frame)
					wipe(got.Bytes, 0xEE)
					wipeNet(gotV)
					if !bytes.Equal(frame, dataOf(size, 1)) {
						t.Fatal("Send: the frame that was handed in was changed")
					}
				}
				isAs(t, "handed in", m, wasM)
				isNet(t, "handed in", v, was)
			}
		}
		for _, w := range []where{{-1, 0, 0}, {0, -1, 0}, {0, 112, -1}, {0, 112, 224}, {0, 0, n}} {
			m := counted(n)
			got, v, _ := New(m, w.rx, w.tx, w.at)
			wipe(got.Bytes, 0xEE)
			wipeNet(v)
			isAs(t, "New: handed in", m, counted(n).Bytes)
		}
	}
}

func TestNothingSharedCard(t *testing.T) {
	for _, write := range []bool{true, false} {
		for _, size := range []int{0, 1, 30, 31} {
			for _, base := range []int{-1, 5, 6} {
				a := askedOf(4, []api.Buf{{At: 600, Len: 30, Write: write}, {At: 700, Len: 9}})
				a.s.Base = base
				was, frame := bytes.Clone(a.m.Bytes), dataOf(size, 1)
				got, _, _ := Bring(a.m, a.s, frame)
				wipe(got.Bytes, 0xEE)
				if !bytes.Equal(frame, dataOf(size, 1)) {
					t.Fatal("Bring: the frame that was handed in was changed")
				}
				got, _, b, _ := Fetch(a.m, a.s)
				wipe(got.Bytes, 0xEE)
				wipe(b, 0xEE)
				isAs(t, "handed in", a.m, was)
			}
		}
	}
}

// TestNoTwoShare: no two lists of an answer share any memory, also where those that were handed in were cut from one.
func TestNoTwoShare(t *testing.T) {
	v := driver(7, 7, apart(), chance(92))
	var one []int
	cut := func(l []int) []int {
		at := len(one)
		one = append(one, l...)
		return one[at:]
	}
	one = make([]int, 0, 64)
	for _, q := range []*api.Queue{&v.Rx, &v.Tx} {
		q.Free = cut(q.Free)
		for i := range q.Chains {
			q.Chains[i].Descs = cut(q.Chains[i].Descs)
		}
	}
	both := append(slices.Clone(v.Rx.Chains), v.Tx.Chains...)
	v.Rx.Chains, v.Tx.Chains = both[:len(v.Rx.Chains)], both[len(v.Rx.Chains):]
	hold := func(what string, v api.Net) {
		t.Helper()
		was := copyOf(v)
		lists := [][]int{v.Rx.Free, v.Tx.Free}
		for _, c := range append(slices.Clone(v.Rx.Chains), v.Tx.Chains...) {
			lists = append(lists, c.Descs)
		}
		for _, l := range lists {
			wipe(l[len(l):], -7)
			isNet(t, what, v, was)
		}
		wipe(v.Rx.Chains[len(v.Rx.Chains):], api.Chain{Head: -7})
		wipe(v.Tx.Chains[len(v.Tx.Chains):], api.Chain{Head: -7})
		isNet(t, what, v, was)
		for i, l := range lists {
			wipe(l[:len(l):len(l)], -10-i)
		}
		for i, l := range lists {
			if slices.ContainsFunc(l, func(x int) bool { return x != -10-i }) {
				t.Fatalf("%s: lists share memory", what)
			}
		}
	}
	for ahead := range uint16(3) {
		m := counted(1800)
		layUsed(m.Bytes, v.Rx.Base, 4, v.Rx.Last, api.Used{ID: uint32(v.In[1] - 1), Len: 9}, v.Rx.Last+ahead)
		layUsed(m.Bytes, v.Tx.Base, 4, v.Tx.Last, api.Used{ID: uint32(v.Outs[1] - 1)}, v.Tx.Last+ahead)
		_, got, _, _ := Take(m, v)
		hold("Take", got)
		got, _ = Reap(m, v)
		hold("Reap", got)
	}
	for _, size := range []int{0, 9} {
		_, got, _ := Send(counted(1800), v, dataOf(size, 1))
		hold("Send", got)
	}
	_, got, _ := New(counted(1800), 0, 112, 240)
	hold("New", got)
}
