package vblk

import (
	"bytes"
	"fmt"
	"math"
	"reflect"
	"slices"
	"testing"

	"phonograph/api"
	"phonograph/disk"
	"phonograph/queue"
)

// Where things lie in a ring of 16 descriptors, from its base on, counted by hand.
const (
	availAt   = 258
	headsAt   = 260
	usedAt    = 294
	entriesAt = 296
	ringBytes = 424
)

// counted answers a memory of n bytes, each unlike its neighbours.
func counted(n int) api.Mem {
	b := make([]byte, n)
	for i := range b {
		b[i] = byte(37*i + i/256 + 1)
	}
	return api.Mem{Bytes: b}
}

// dataOf answers n bytes, unlike those of another seed.
func dataOf(n, seed int) []byte {
	b := make([]byte, n)
	for i := range b {
		b[i] = byte(91*i + i/7 + 53*seed + 200)
	}
	return b
}

// low answers a number from bytes, the lowest one first.
func low(b []byte) uint64 {
	var n uint64
	for i := len(b) - 1; i >= 0; i-- {
		n = n*256 + uint64(b[i])
	}
	return n
}

// layLow writes the size lowest bytes of a number over those of a list, the lowest one first.
func layLow(b []byte, at, size int, n uint64) {
	for i := range size {
		b[at+i] = byte(n % 256)
		n /= 256
	}
}

// layDesc writes the i-th descriptor of a ring over bytes.
func layDesc(b []byte, base, i int, d api.Desc) {
	at := base + 16*i
	layLow(b, at, 8, d.Addr)
	layLow(b, at+8, 4, uint64(d.Len))
	layLow(b, at+12, 2, uint64(d.Flags))
	layLow(b, at+14, 2, uint64(d.Next))
}

// layAvail writes over bytes that a head is available at i, and the index.
func layAvail(b []byte, base int, i uint16, head int, index uint16) {
	layLow(b, base+headsAt+2*(int(i)%16), 2, uint64(head))
	layLow(b, base+availAt, 2, uint64(index))
}

// layUsed writes over bytes that one was used at i, and the index.
func layUsed(b []byte, base int, i uint16, u api.Used, index uint16) {
	at := base + entriesAt + 8*(int(i)%16)
	layLow(b, at, 4, uint64(u.ID))
	layLow(b, at+4, 4, uint64(u.Len))
	layLow(b, base+usedAt, 2, uint64(index))
}

// isAs fails, unless a memory has these bytes.
func isAs(t *testing.T, what string, got api.Mem, want []byte) {
	t.Helper()
	if bytes.Equal(got.Bytes, want) {
		return
	}
	at := 0
	for at < len(want) && at < len(got.Bytes) && got.Bytes[at] == want[at] {
		at++
	}
	t.Fatalf("%s: %d bytes, not %d; unlike from %d on: %.16x, not %.16x", what, len(got.Bytes), len(want), at, got.Bytes[at:], want[at:])
}

// copyOf answers a driver that has no list in common with the one that it was copied from; none of its lists is nil.
func copyOf(b api.Blk) api.Blk {
	b.Queue.Free = append([]int{}, b.Queue.Free...)
	l := []api.Chain{}
	for _, c := range b.Queue.Chains {
		c.Descs = append([]int{}, c.Descs...)
		l = append(l, c)
	}
	b.Queue.Chains = l
	return b
}

// isBlk fails, unless a driver is as this one, in all its fields.
func isBlk(t *testing.T, what string, got, want api.Blk) {
	t.Helper()
	if !reflect.DeepEqual(copyOf(got), copyOf(want)) {
		t.Fatalf("%s: %+v, not %+v", what, got, want)
	}
}

// copyOfDisk answers a disk that has no list in common with the one that it was copied from; none of its lists is nil.
func copyOfDisk(d api.Disk) api.Disk {
	l := api.Disk{Sectors: [][]byte{}, Cache: []api.Write{}}
	for _, sector := range d.Sectors {
		l.Sectors = append(l.Sectors, append([]byte{}, sector...))
	}
	for _, w := range d.Cache {
		l.Cache = append(l.Cache, api.Write{At: w.At, Data: append([]byte{}, w.Data...)})
	}
	return l
}

// isDisk fails, unless a disk is as this one, in its sectors and its writes.
func isDisk(t *testing.T, what string, got, want api.Disk) {
	t.Helper()
	if !reflect.DeepEqual(copyOfDisk(got), copyOfDisk(want)) {
		t.Fatalf("%s: a disk of %d sectors and %d writes is not as the one of %d and %d", what, len(got.Sectors), len(got.Cache), len(want.Sectors), len(want.Cache))
	}
}

// diskOf answers a disk of n sectors, each unlike the others, with some writes.
func diskOf(n, writes int) api.Disk {
	var d api.Disk
	for at := range n {
		d.Sectors = append(d.Sectors, dataOf(256, at))
	}
	for i := range writes {
		d.Cache = append(d.Cache, api.Write{At: i % n, Data: dataOf(256, 1000+i)})
	}
	return d
}

// chance makes a function that answers numbers below one that it is handed, the same ones again for the same seed.
func chance(seed uint64) func(n int) int {
	x := seed*2862933555777941757 + 3037000493
	return func(n int) int {
		x = x*6364136223846793005 + 1442695040888963407
		return int(x >> 33 % uint64(n))
	}
}

// upFrom answers the numbers from low below high.
func upFrom(low, high int) []int {
	l := []int{}
	for i := low; i < high; i++ {
		l = append(l, i)
	}
	return l
}

// shuffled answers the numbers from 0 below n, in an order that chance tells.
func shuffled(n int, next func(int) int) []int {
	l := upFrom(0, n)
	for i := n - 1; i > 0; i-- {
		j := next(i + 1)
		l[i], l[j] = l[j], l[i]
	}
	return l
}

// driver answers one that may be, whose busy slots are told by the bits of a mask: their chains have any descriptors, and stand in any order.
func driver(mask, base, at int, next func(int) int) api.Blk {
	b := api.Blk{Queue: api.Queue{Base: base, Size: 16, Avail: uint16(next(65536)), Last: uint16(next(65536))}, At: at}
	descs := shuffled(16, next)
	for _, i := range shuffled(4, next) {
		if mask>>i%2 == 0 {
			continue
		}
		n := 2 + next(2)
		c := api.Chain{Head: descs[0], Descs: slices.Clone(descs[:n]), Room: 1}
		descs = descs[n:]
		b.Queue.Chains = append(b.Queue.Chains, c)
		b.Slots[i] = api.Request{Busy: true, Head: c.Head, Flush: n == 2}
		if n == 3 {
			b.Slots[i].Sector = next(256)
		}
	}
	slices.Sort(descs)
	b.Queue.Free = descs
	return b
}

// drivers are such with each choice of busy slots, at a place.
func drivers(base, at int, seed uint64) []api.Blk {
	next := chance(seed)
	var l []api.Blk
	for mask := range 16 {
		l = append(l, driver(mask, base, at, next))
	}
	return l
}

// twoBusy is one of which the slots 1 and 3 are busy.
func twoBusy() api.Blk {
	return api.Blk{
		Queue: api.Queue{
			Base: 4, Size: 16, Free: []int{3, 4, 6, 8, 9, 10, 11, 12, 13, 14, 15}, Avail: 9, Last: 7,
			Chains: []api.Chain{{Head: 7, Descs: []int{7, 1}, Room: 1}, {Head: 5, Descs: []int{5, 0, 2}, Room: 1}},
		},
		At:    500,
		Slots: [4]api.Request{{}, {Busy: true, Head: 5, Sector: 255}, {}, {Busy: true, Head: 7, Flush: true}},
	}
}

// P9.1

// mayBe is P9.1's Check, done once more by going through the slots.
func mayBe(b api.Blk) bool {
	if !queue.Check(b.Queue) || b.Queue.Size != 16 || b.At < 0 || b.At > 8192 {
		return false
	}
	n := 0
	for i, r := range b.Slots {
		if !r.Busy {
			if r.Head != 0 || r.Flush || r.Sector != 0 {
				return false
			}
			continue
		}
		n++
		found := false
		for _, c := range b.Queue.Chains {
			found = found || c.Head == r.Head
		}
		for _, other := range b.Slots[:i] {
			found = found && !(other.Busy && other.Head == r.Head)
		}
		if !found {
			return false
		}
	}
	return n == len(b.Queue.Chains)
}

// checks fails, unless Check answers this.
func checks(t *testing.T, what string, b api.Blk, want bool) {
	t.Helper()
	was := copyOf(b)
	if got := Check(b); got != want {
		t.Errorf("%s: %+v: %v", what, b, got)
	}
	isBlk(t, what+": handed in", b, was)
}

func TestCheck(t *testing.T) {
	checks(t, "a zero value", api.Blk{}, false)
	checks(t, "a new one", api.Blk{Queue: api.Queue{Size: 16, Free: upFrom(0, 16)}}, true)
	checks(t, "two are busy", twoBusy(), true)
	for seed := range uint64(20) {
		for _, b := range drivers(int(seed), 300, seed) {
			checks(t, "one that may be", b, true)
		}
	}
}

func TestCheckQueue(t *testing.T) {
	for _, n := range []int{1, 2, 4, 8, 16} {
		checks(t, "a size", api.Blk{Queue: api.Queue{Size: n, Free: upFrom(0, n)}}, n == 16)
		full := api.Blk{Queue: api.Queue{Size: n, Chains: []api.Chain{{Descs: upFrom(0, n)}}}, Slots: [4]api.Request{{Busy: true}}}
		checks(t, "a size, all in a chain", full, n == 16)
	}
	for _, n := range []int{-16, -1, 0, 3, 15, 17, 32, 1<<32 + 16, math.MaxInt, math.MinInt, math.MinInt + 16} {
		checks(t, "no size", api.Blk{Queue: api.Queue{Size: n, Free: upFrom(0, 16)}}, false)
		checks(t, "no size", api.Blk{Queue: api.Queue{Size: n, Free: upFrom(0, max(0, min(n, 40)))}}, false)
	}
	for i, change := range []func(q *api.Queue){
		func(q *api.Queue) { q.Base = -1 },
		func(q *api.Queue) { q.Free = q.Free[1:] },
		func(q *api.Queue) { q.Free[0] = 7 },
		func(q *api.Queue) { q.Free[0], q.Free[1] = q.Free[1], q.Free[0] },
		func(q *api.Queue) { q.Free[len(q.Free)-1] = 16 },
		func(q *api.Queue) { q.Chains[0].Room = -1 },
		func(q *api.Queue) { q.Chains[0].Room = 1 << 31 },
		func(q *api.Queue) { q.Chains[0].Descs[1] = 5 },
		func(q *api.Queue) { q.Chains[0].Descs = nil },
		func(q *api.Queue) { q.Chains = append(q.Chains, api.Chain{}) },
	} {
		b := twoBusy()
		change(&b.Queue)
		checks(t, fmt.Sprintf("a queue that does not Check, %d", i), b, false)
	}
	for _, i := range []uint16{0, 1, 65535} {
		for _, room := range []int{0, 1, 2, 1<<31 - 1} {
			b := twoBusy()
			b.Queue.Avail, b.Queue.Last, b.Queue.Base, b.Queue.Chains[0].Room = i, ^i, math.MaxInt, room
			checks(t, "a queue that Checks", b, true)
		}
	}
}

func TestCheckAt(t *testing.T) {
	for _, at := range []int{0, 1, 2, 500, 7040, 7041, 8191, 8192} {
		b := twoBusy()
		b.At = at
		checks(t, "a place", b, true)
	}
	for _, at := range []int{-1, -2, -8192, math.MinInt, math.MinInt + 500, 8193, 8194, 1 << 31, 1 << 32, 1<<32 + 500, math.MaxInt} {
		b := twoBusy()
		b.At = at
		checks(t, "no place", b, false)
	}
}

func TestCheckSlots(t *testing.T) {
	for i, c := range []struct {
		change func(b *api.Blk)
		want   bool
	}{
		{func(b *api.Blk) { b.Slots[1].Head = 3 }, false},               // a free one
		{func(b *api.Blk) { b.Slots[1].Head = 0 }, false},               // of a chain, but not its head
		{func(b *api.Blk) { b.Slots[1].Head = 2 }, false},               // the last one of a chain
		{func(b *api.Blk) { b.Slots[1].Head = 1 }, false},               // of the other chain
		{func(b *api.Blk) { b.Slots[1].Head = 7 }, false},               // the other one's
		{func(b *api.Blk) { b.Slots[3].Head = 5 }, false},               // the other one's
		{func(b *api.Blk) { b.Slots[1].Head = -1 }, false},              // none
		{func(b *api.Blk) { b.Slots[1].Head = 16 }, false},              // none
		{func(b *api.Blk) { b.Slots[1].Head = 1<<32 + 5 }, false},       // none
		{func(b *api.Blk) { b.Slots[1].Head = math.MinInt + 5 }, false}, // none
		{func(b *api.Blk) { b.Slots[1], b.Slots[0] = b.Slots[0], b.Slots[1] }, true},
		{func(b *api.Blk) { b.Slots[1].Head, b.Slots[3].Head = 7, 5 }, true},
		{func(b *api.Blk) { b.Slots[0].Head = 5 }, false},
		{func(b *api.Blk) { b.Slots[0].Head = 3 }, false},
		{func(b *api.Blk) { b.Slots[0].Head = -1 }, false},
		{func(b *api.Blk) { b.Slots[2].Flush = true }, false},
		{func(b *api.Blk) { b.Slots[2].Sector = 1 }, false},
		{func(b *api.Blk) { b.Slots[2].Sector = -1 }, false},
		{func(b *api.Blk) { b.Slots[3].Busy = false }, false},
		{func(b *api.Blk) { b.Slots[1] = api.Request{} }, false},           // more chains than are busy
		{func(b *api.Blk) { b.Slots = [4]api.Request{} }, false},           // more chains than are busy
		{func(b *api.Blk) { b.Slots[0] = b.Slots[1] }, false},              // two of one head, and fewer chains
		{func(b *api.Blk) { b.Slots[0] = api.Request{Busy: true} }, false}, // 0 is no head here
		{func(b *api.Blk) { b.Slots[0] = api.Request{Busy: true, Head: 3} }, false},
		{func(b *api.Blk) { b.Slots[1] = b.Slots[3] }, false},
		{func(b *api.Blk) {
			b.Queue.Free, b.Queue.Chains = b.Queue.Free[1:], append(b.Queue.Chains, api.Chain{Head: 3, Descs: []int{3}})
		}, false}, // one more chain
		{func(b *api.Blk) {
			b.Queue.Free, b.Queue.Chains = b.Queue.Free[1:], append(b.Queue.Chains, api.Chain{Head: 3, Descs: []int{3}})
			b.Slots[2] = api.Request{Busy: true, Head: 3}
		}, true},
		{func(b *api.Blk) {
			b.Queue.Free, b.Queue.Chains = b.Queue.Free[1:], append(b.Queue.Chains, api.Chain{Head: 3, Descs: []int{3}})
			b.Slots[2] = b.Slots[1]
		}, false},
		{func(b *api.Blk) {
			b.Queue.Free, b.Queue.Chains = slices.Insert(b.Queue.Free, 0, 1, 7), b.Queue.Chains[1:]
			slices.Sort(b.Queue.Free)
		}, false}, // one chain less
		{func(b *api.Blk) {
			b.Queue.Free, b.Queue.Chains = slices.Insert(b.Queue.Free, 0, 1, 7), b.Queue.Chains[1:]
			slices.Sort(b.Queue.Free)
			b.Slots[3] = api.Request{}
		}, true},
		{func(b *api.Blk) { b.Queue.Chains, b.Queue.Free = nil, upFrom(0, 16) }, false},
		{func(b *api.Blk) { b.Slots[1].Sector, b.Slots[1].Flush, b.Slots[3].Flush = 7, true, false }, true},
	} {
		b := twoBusy()
		c.change(&b)
		checks(t, fmt.Sprintf("slots, %d", i), b, c.want)
		if mayBe(b) != c.want {
			t.Errorf("slots, %d: not as P9.1 has it", i)
		}
	}
	five := api.Blk{Queue: api.Queue{Size: 16, Free: upFrom(5, 16)}}
	for i := range 5 {
		five.Queue.Chains = append(five.Queue.Chains, api.Chain{Head: i, Descs: []int{i}})
		if i < 4 {
			five.Slots[i] = api.Request{Busy: true, Head: i}
		}
	}
	checks(t, "five chains", five, false)
}

// TestCheckAny: drivers that may be, with a field or two that chance tells.
func TestCheckAny(t *testing.T) {
	came := make(map[bool]int)
	for seed := range uint64(400) {
		next := chance(seed)
		for mask := range 16 {
			b := driver(mask, 0, next(8193), next)
			for range 1 + next(2) {
				r := &b.Slots[next(4)]
				switch next(5) {
				case 0:
					r.Busy = !r.Busy
				case 1:
					r.Head = next(18) - 1
				case 2:
					r.Flush = !r.Flush
				case 3:
					r.Sector = next(3)
				case 4:
					*r, b.Slots[0] = b.Slots[0], *r
				}
			}
			want := mayBe(b)
			checks(t, "any", b, want)
			came[want]++
		}
	}
	if came[true] < 1000 || came[false] < 1000 {
		t.Errorf("not both: %v", came)
	}
}

// TestNew: of 3000 bytes the fourth request's last byte is the last one, where the first begins at 1848.
func TestNew(t *testing.T) {
	for _, base := range []int{0, 1, 2, 3, 4, 7, 13, 500, 2000, 3000 - 424} {
		for _, at := range []int{0, 1, 2, 3, 100, 423, 424, 425, 500, 1847, 1848} {
			what := fmt.Sprintf("New at %d and %d", base, at)
			m := counted(3000)
			want := counted(3000).Bytes
			clear(want[base : base+424])
			got, b, e := New(m, base, at)
			if e != api.OK || !Check(b) {
				t.Fatalf("%s: %d", what, e)
			}
			isAs(t, what, got, want)
			isBlk(t, what, b, api.Blk{Queue: api.Queue{Base: base, Size: 16, Free: upFrom(0, 16)}, At: at})
			isAs(t, what+": handed in", m, counted(3000).Bytes)
		}
	}
	for _, n := range []int{1152, 1153, 1576, 8191, 8192} {
		if _, b, e := New(counted(n), n-424, n-1152); e != api.OK || b.At != n-1152 || b.Queue.Base != n-424 {
			t.Errorf("New at the end of %d bytes: %d", n, e)
		}
	}
}

// newRefused fails, unless New comes to this error, with the memory as it was.
func newRefused(t *testing.T, m api.Mem, base, at int, err api.Errno) {
	t.Helper()
	what := fmt.Sprintf("New at %d and %d of %d bytes", base, at, len(m.Bytes))
	was := bytes.Clone(m.Bytes)
	got, b, e := New(m, base, at)
	if e != err {
		t.Fatalf("%s: %d, not %d", what, e, err)
	}
	isAs(t, what, got, was)
	isBlk(t, what, b, api.Blk{})
	isAs(t, what+": handed in", m, was)
}

func TestNewRefused(t *testing.T) {
	for _, at := range []int{-1, -2, -288, -1152, -1848, 1849, 1850, 2135, 2136, 2999, 3000, 3001, 8192, 1 << 31, 1 << 32, 1<<32 + 500, 1 << 62, math.MaxInt, math.MaxInt - 1151, math.MaxInt - 1152, math.MinInt, math.MinInt + 500} {
		newRefused(t, counted(3000), 0, at, api.ErrRange)
		newRefused(t, counted(3000), 3000-424, at, api.ErrRange)
		for _, base := range []int{-1, -424, 3000 - 423, 2999, 3000, 3001, 1 << 32, math.MaxInt, math.MaxInt - 423, math.MinInt} {
			newRefused(t, counted(3000), base, at, api.ErrRing)
		}
		newRefused(t, counted(8193), 0, at, api.ErrRing)
		newRefused(t, api.Mem{}, 0, at, api.ErrRing)
	}
	for _, base := range []int{-1, 2577, 3000, math.MaxInt, math.MinInt} {
		newRefused(t, counted(3000), base, 500, api.ErrRing)
	}
	newRefused(t, counted(8193), 0, 500, api.ErrRing)
	newRefused(t, counted(423), 0, 0, api.ErrRing)
	for _, n := range []int{424, 500, 1151} {
		newRefused(t, counted(n), 0, 0, api.ErrRange)
	}
	newRefused(t, counted(1152), 0, 1, api.ErrRange)
}

// P9.2

// TestExample: the chapter's, with what is laid counted by hand.
func TestExample(t *testing.T) {
	m, b, e := New(counted(1700), 0, 500)
	d, f := disk.New(4)
	data := dataOf(256, 3)
	m, b, n, g := Write(m, b, 1, data)
	if max(e, f, g) != api.OK || n != 0 {
		t.Fatal(e, f, g, n)
	}
	want := counted(1700).Bytes
	clear(want[:424])
	copy(want, []byte{
		0xF4, 1, 0, 0, 0, 0, 0, 0, 16, 0, 0, 0, 1, 0, 1, 0,
		0x04, 2, 0, 0, 0, 0, 0, 0, 0, 1, 0, 0, 1, 0, 2, 0,
		0x04, 3, 0, 0, 0, 0, 0, 0, 1, 0, 0, 0, 2, 0, 0, 0,
	})
	want[258] = 1
	copy(want[500:], []byte{1, 0, 0, 0, 0, 0, 0, 0, 1, 0, 0, 0, 0, 0, 0, 0})
	copy(want[516:], data)
	want[772] = 255
	isAs(t, "Write", m, want)
	isBlk(t, "Write", b, api.Blk{
		Queue: api.Queue{Size: 16, Free: upFrom(3, 16), Avail: 1, Chains: []api.Chain{{Head: 0, Descs: []int{0, 1, 2}, Room: 1}}},
		At:    500,
		Slots: [4]api.Request{{Busy: true, Sector: 1}},
	})
	m, s, d, e := Serve(m, queue.Serve(0, 16), d, 0)
	want[772], want[294], want[300] = 0, 1, 1
	isAs(t, "Serve", m, want)
	if e != api.OK || s != (api.Served{Size: 16, Seen: 1, Used: 1}) {
		t.Fatalf("%+v, %d", s, e)
	}
	b, n, went, e := Done(m, b)
	x, f := disk.Read(d, 1)
	if max(e, f, went) != api.OK || n != 0 || !bytes.Equal(x, data) {
		t.Fatal(n, went, e, f)
	}
	isBlk(t, "Done", b, api.Blk{Queue: api.Queue{Size: 16, Free: upFrom(0, 16), Avail: 1, Last: 1}, At: 500})
}

// TestExampleFlush: a flush, in the second slot, with what is laid counted by hand.
func TestExampleFlush(t *testing.T) {
	m, b, _ := New(counted(1700), 0, 500)
	m, b, _, _ = Write(m, b, 1, dataOf(256, 3))
	want := bytes.Clone(m.Bytes)
	m, b, n, e := Flush(m, b)
	if e != api.OK || n != 1 {
		t.Fatal(n, e)
	}
	copy(want[48:], []byte{
		0x14, 3, 0, 0, 0, 0, 0, 0, 16, 0, 0, 0, 1, 0, 4, 0,
		0x24, 4, 0, 0, 0, 0, 0, 0, 1, 0, 0, 0, 2, 0, 0, 0,
	})
	want[258], want[262] = 2, 3
	copy(want[788:], []byte{4, 0, 0, 0, 0, 0, 0, 0, 0, 0, 0, 0, 0, 0, 0, 0})
	want[1060] = 255
	isAs(t, "Flush", m, want)
	isBlk(t, "Flush", b, api.Blk{
		Queue: api.Queue{Size: 16, Free: upFrom(5, 16), Avail: 2, Chains: []api.Chain{{Head: 0, Descs: []int{0, 1, 2}, Room: 1}, {Head: 3, Descs: []int{3, 4}, Room: 1}}},
		At:    500,
		Slots: [4]api.Request{{Busy: true, Sector: 1}, {Busy: true, Head: 3, Flush: true}},
	})
}

// request is a call of Write, or of Flush.
type request struct {
	flush  bool
	sector int
	data   []byte
}

// call does it.
func (r request) call(m api.Mem, b api.Blk) (api.Mem, api.Blk, int, api.Errno) {
	if r.flush {
		return Flush(m, b)
	}
	return Write(m, b, r.sector, r.data)
}

// handed answers what P9.2 asks for of a request that may be handed over, done once more on bytes.
func handed(m api.Mem, b api.Blk, r request) ([]byte, api.Blk, int) {
	now := bytes.Clone(m.Bytes)
	b = copyOf(b)
	i := 0
	for b.Slots[i].Busy {
		i++
	}
	at := b.At + 288*i
	kind, parts := 1, []api.Buf{{At: at, Len: 16}, {At: at + 16, Len: 256}, {At: at + 272, Len: 1, Write: true}}
	if r.flush {
		kind, parts = 4, slices.Delete(parts, 1, 2)
	}
	layLow(now, at, 4, uint64(kind))
	layLow(now, at+4, 4, 0)
	layLow(now, at+8, 8, uint64(r.sector))
	copy(now[at+16:], r.data)
	now[at+272] = 255
	these := slices.Clone(b.Queue.Free[:len(parts)])
	for k, p := range parts {
		d := api.Desc{Addr: uint64(p.At), Len: uint32(p.Len), Flags: 2}
		if k < len(parts)-1 {
			d.Flags, d.Next = 1, uint16(these[k+1])
		}
		layDesc(now, b.Queue.Base, these[k], d)
	}
	layAvail(now, b.Queue.Base, b.Queue.Avail, these[0], b.Queue.Avail+1)
	b.Queue.Avail++
	b.Queue.Free = b.Queue.Free[len(parts):]
	b.Queue.Chains = append(b.Queue.Chains, api.Chain{Head: these[0], Descs: these, Room: 1})
	b.Slots[i] = api.Request{Busy: true, Head: these[0], Flush: r.flush, Sector: r.sector}
	return now, b, i
}

// hands fails, unless a request is handed over as P9.2 has it.
func hands(t *testing.T, what string, m api.Mem, b api.Blk, r request) (api.Mem, api.Blk) {
	t.Helper()
	was, wasB, wasData := bytes.Clone(m.Bytes), copyOf(b), bytes.Clone(r.data)
	want, wantB, i := handed(m, b, r)
	got, gotB, n, e := r.call(m, b)
	if e != api.OK || n != i || !Check(gotB) {
		t.Fatalf("%s: %d, %d, not %d", what, n, e, i)
	}
	isAs(t, what, got, want)
	isBlk(t, what, gotB, wantB)
	isAs(t, what+": handed in", m, was)
	isBlk(t, what+": handed in", b, wasB)
	if !bytes.Equal(r.data, wasData) {
		t.Fatalf("%s: the data that was handed in was changed", what)
	}
	return got, gotB
}

// handsNot fails, unless a request comes to this error, with all as it was.
func handsNot(t *testing.T, what string, m api.Mem, b api.Blk, r request, err api.Errno) {
	t.Helper()
	was, wasB, wasData := bytes.Clone(m.Bytes), copyOf(b), bytes.Clone(r.data)
	got, gotB, n, e := r.call(m, b)
	if e != err || n != 0 {
		t.Fatalf("%s: %d, %d, not %d", what, n, e, err)
	}
	isAs(t, what, got, was)
	isBlk(t, what, gotB, wasB)
	isAs(t, what+": handed in", m, was)
	isBlk(t, what+": handed in", b, wasB)
	if !bytes.Equal(r.data, wasData) {
		t.Fatalf("%s: the data that was handed in was changed", what)
	}
}

// good are requests that may be.
func good() []request {
	l := []request{{flush: true}}
	for _, sector := range []int{0, 1, 2, 127, 128, 254, 255} {
		l = append(l, request{sector: sector, data: dataOf(256, sector)})
	}
	return l
}

// bad are requests to write that may not.
func bad() []request {
	var l []request
	for _, n := range []int{0, 1, 16, 255, 257, 272, 512, 8192, 65536 + 256} {
		l = append(l, request{sector: 1, data: dataOf(n, 1)}, request{sector: -1, data: dataOf(n, 1)})
	}
	for _, sector := range []int{-1, -2, -256, -1 << 31, -1 << 32, math.MinInt, math.MinInt + 1, 256, 257, 511, 512, 65536, 1 << 31, 1<<31 + 1, 1 << 32, 1<<32 + 1, 1 << 62, math.MaxInt} {
		l = append(l, request{sector: sector, data: dataOf(256, 1)})
	}
	return l
}

func TestWriteAndFlush(t *testing.T) {
	for seed := range uint64(4) {
		base, at := 3*int(seed), 430+5*int(seed)
		for _, b := range drivers(base, at, seed) {
			for i, r := range good() {
				what := fmt.Sprintf("request %d, slots %+v", i, b.Slots)
				if b.Slots[0].Busy && b.Slots[1].Busy && b.Slots[2].Busy && b.Slots[3].Busy {
					handsNot(t, what, counted(1700), b, r, api.ErrFull)
					continue
				}
				hands(t, what, counted(1700), b, r)
			}
		}
	}
}

// TestAllFour: each of four is handed over in the next slot, then none is; the one in the middle that came back is the next one.
func TestAllFour(t *testing.T) {
	m, b, _ := New(counted(1700), 2, 430)
	for i, r := range []request{{sector: 9, data: dataOf(256, 1)}, {flush: true}, {sector: 8, data: dataOf(256, 2)}, {sector: 7, data: dataOf(256, 3)}} {
		m, b = hands(t, fmt.Sprintf("the %d-th", i), m, b, r)
		if !b.Slots[i].Busy {
			t.Fatalf("the %d-th: %+v", i, b.Slots)
		}
	}
	for _, r := range good() {
		handsNot(t, "all are busy", m, b, r, api.ErrFull)
	}
	layUsed(m.Bytes, 2, 0, api.Used{ID: 5, Len: 1}, 1)
	b, n, _, e := Done(m, b)
	if n != 2 || e != api.OK {
		t.Fatal(n, e)
	}
	m, b = hands(t, "the third one", m, b, request{flush: true})
	if !b.Slots[2].Flush || b.Slots[2].Sector != 0 {
		t.Fatalf("%+v", b.Slots)
	}
	handsNot(t, "all are busy", m, b, request{flush: true}, api.ErrFull)
}

// TestWriteOverTheRing: where a request lies over the ring, it is put first, and the ring's numbers then.
func TestWriteOverTheRing(t *testing.T) {
	for at := range 430 {
		b := drivers(100, at, uint64(at))[at%15]
		for _, r := range good()[:2] {
			hands(t, fmt.Sprintf("a request at %d", at), counted(1700), b, r)
		}
	}
}

// noBlks are drivers that do not Check.
func noBlks() []api.Blk {
	var l []api.Blk
	for _, change := range []func(b *api.Blk){
		func(b *api.Blk) { *b = api.Blk{} },
		func(b *api.Blk) { b.At = -1 },
		func(b *api.Blk) { b.At = 8193 },
		func(b *api.Blk) { b.Queue.Base = -1 },
		func(b *api.Blk) { b.Queue.Size = 8 },
		func(b *api.Blk) { b.Queue.Free = b.Queue.Free[1:] },
		func(b *api.Blk) { b.Slots[0].Head = 5 },
		func(b *api.Blk) { b.Slots[1].Head = 7 },
		func(b *api.Blk) { b.Slots[1].Head = 2 },
		func(b *api.Blk) { b.Slots[1] = api.Request{} },
		func(b *api.Blk) { b.Slots[2] = api.Request{Busy: true, Head: 3} },
		func(b *api.Blk) { b.Queue.Chains = append(b.Queue.Chains, api.Chain{Head: 20, Descs: []int{20}}) },
		func(b *api.Blk) {
			for i := range b.Slots {
				b.Slots[i] = api.Request{Busy: true, Head: i}
			}
		},
	} {
		b := twoBusy()
		change(&b)
		l = append(l, b)
	}
	return l
}

// TestFormFirst: ErrForm comes ahead of all else.
func TestFormFirst(t *testing.T) {
	for _, b := range noBlks() {
		for _, n := range []int{0, 600, 1700, 8193} {
			m := counted(n)
			if n > 600 {
				layUsed(m.Bytes, 4, 7, api.Used{ID: 5, Len: 1}, 8)
			}
			for _, r := range append(good()[:2], bad()...) {
				handsNot(t, "a driver that may not be", m, b, r, api.ErrForm)
			}
			doneCame(t, "a driver that may not be", m, b, b, 0, api.OK, api.ErrForm)
		}
	}
}

// TestArgNext: ErrArg comes ahead of ErrFull, of ErrRange and of layer 8's errors.
func TestArgNext(t *testing.T) {
	for _, b := range drivers(0, 430, 5) {
		for _, r := range bad() {
			for _, n := range []int{0, 423, 600, 1700, 8193} {
				handsNot(t, "a request that may not be", counted(n), b, r, api.ErrArg)
			}
		}
	}
}

// TestFullThird: ErrFull comes ahead of ErrRange and of layer 8's errors.
func TestFullThird(t *testing.T) {
	b := drivers(0, 430, 6)[15]
	for _, n := range []int{0, 423, 429, 431, 600, 1581, 1700, 8193} {
		for _, r := range good() {
			handsNot(t, "all are busy", counted(n), b, r, api.ErrFull)
		}
	}
}

// TestRange: the head, the data and the status lie within memory, or it is ErrRange, which comes ahead of layer 8's errors; of the fifteen bytes behind them nobody asks.
func TestRange(t *testing.T) {
	next := chance(8)
	for mask, first := range []int{0, 1, 0, 2, 0, 1, 0, 3} {
		for _, at := range []int{424, 425, 500} {
			b := driver(mask, 0, at, next)
			last := at + 288*first + 272
			for _, r := range good()[:3] {
				for _, n := range []int{last - 272, last - 271, last - 257, last - 256, last - 255, last - 1, last} {
					handsNot(t, fmt.Sprintf("a request from %d on, of %d bytes", last-272, n), counted(n), b, r, api.ErrRange)
				}
				for _, n := range []int{last + 1, last + 2, last + 15, last + 16, last + 17} {
					hands(t, fmt.Sprintf("a request from %d on, of %d bytes", last-272, n), counted(n), b, r)
				}
			}
			b.Queue.Base = 8192
			for _, r := range good()[:3] {
				handsNot(t, "neither request nor ring", counted(last), b, r, api.ErrRange)
				handsNot(t, "neither request nor ring", api.Mem{}, b, r, api.ErrRange)
				handsNot(t, "no ring", counted(last+1), b, r, api.ErrRing)
			}
		}
		for _, at := range []int{7648, 8191, 8192} {
			b := driver(mask, 0, at, next)
			last := at + 288*first + 272
			for _, n := range []int{8192, 8193, 8193 + 300} {
				want := api.ErrRange
				if n > last {
					want = api.ErrRing
				}
				for _, r := range good()[:3] {
					if n > 8192 || want == api.ErrRange {
						handsNot(t, "the end of all memory", counted(n), b, r, want)
					} else {
						hands(t, "the end of all memory", counted(n), b, r)
					}
				}
			}
		}
	}
}

// TestAddErrors: layer 8's Add's come last: no ring, and too few that are free.
func TestAddErrors(t *testing.T) {
	for mask, b := range drivers(0, 0, 9) {
		if mask == 15 {
			continue
		}
		for _, base := range []int{1700 - 423, 1700, 8192, 1 << 32, math.MaxInt} {
			b.Queue.Base = base
			for _, r := range good() {
				handsNot(t, "no ring", counted(1700), b, r, api.ErrRing)
			}
		}
		b.Queue.Base = 0
		for _, r := range good() {
			handsNot(t, "too much memory", counted(8193), b, r, api.ErrRing)
		}
	}
	for free := range 5 {
		b := api.Blk{Queue: api.Queue{Base: 7, Size: 16, Free: upFrom(0, free)}, At: 500}
		b.Slots[1] = api.Request{Busy: true, Head: free}
		b.Queue.Chains = []api.Chain{{Head: free, Descs: upFrom(free, 16), Room: 1}}
		for _, r := range good() {
			if free > 2 || free == 2 && r.flush {
				hands(t, fmt.Sprintf("%d are free", free), counted(1700), b, r)
			} else {
				handsNot(t, fmt.Sprintf("%d are free", free), counted(1700), b, r, api.ErrFull)
			}
		}
	}
}

// P9.3

// doneCame fails, unless Done comes to this driver, this number, and these two errors.
func doneCame(t *testing.T, what string, m api.Mem, b, want api.Blk, n int, went, err api.Errno) {
	t.Helper()
	was, wasB := bytes.Clone(m.Bytes), copyOf(b)
	got, k, w, e := Done(m, b)
	if k != n || w != went || e != err {
		t.Fatalf("%s: %d, %d, %d, not %d, %d, %d", what, k, w, e, n, went, err)
	}
	isBlk(t, what, got, want)
	isAs(t, what+": handed in", m, was)
	isBlk(t, what+": handed in", b, wasB)
}

// back answers a driver behind a request that came back.
func back(b api.Blk, i int) api.Blk {
	b = copyOf(b)
	k := 0
	for b.Queue.Chains[k].Head != b.Slots[i].Head {
		k++
	}
	b.Queue.Free = append(b.Queue.Free, b.Queue.Chains[k].Descs...)
	slices.Sort(b.Queue.Free)
	b.Queue.Chains = slices.Delete(b.Queue.Chains, k, k+1)
	b.Queue.Last++
	b.Slots[i] = api.Request{}
	return b
}

func TestDone(t *testing.T) {
	for seed := range uint64(3) {
		for _, b := range drivers(int(seed), 430, seed) {
			for i, r := range b.Slots {
				if !r.Busy {
					continue
				}
				for _, status := range []byte{0, 1, 2, 127, 128, 254, 255} {
					for n := range 4 {
						for k := range b.Queue.Chains {
							b.Queue.Chains[k].Room = 3
						}
						m := counted(1700)
						m.Bytes[430+288*i+272] = status
						layUsed(m.Bytes, b.Queue.Base, b.Queue.Last, api.Used{ID: uint32(r.Head), Len: uint32(n)}, b.Queue.Last+1)
						went := api.ErrIO
						if status == 0 && n == 1 {
							went = api.OK
						}
						doneCame(t, fmt.Sprintf("slot %d, status %d, %d bytes", i, status, n), m, b, back(b, i), i, went, api.OK)
					}
				}
			}
		}
	}
}

// TestDoneStatus: a status is that of its own request, and all of its eight bits count, but none of its neighbours'.
func TestDoneStatus(t *testing.T) {
	b := drivers(0, 430, 3)[15]
	for i, r := range b.Slots {
		for at := range 1700 - 430 {
			for _, own := range []byte{0, 255} {
				m := counted(1700)
				clear(m.Bytes[430:])
				m.Bytes[430+at] = 128
				if at != 288*i+272 {
					m.Bytes[430+288*i+272] = own
				}
				layUsed(m.Bytes, 0, b.Queue.Last, api.Used{ID: uint32(r.Head), Len: 1}, b.Queue.Last+1)
				went := api.ErrIO
				if own == 0 && at != 288*i+272 {
					went = api.OK
				}
				doneCame(t, fmt.Sprintf("slot %d, a bit at %d", i, at), m, b, back(b, i), i, went, api.OK)
			}
		}
	}
}

// TestDoneBeyond: of a status that does not lie within memory nobody can say that it is 0.
func TestDoneBeyond(t *testing.T) {
	b := drivers(0, 430, 4)[15]
	for i, r := range b.Slots {
		last := 430 + 288*i + 272
		for _, n := range []int{424, 430, last - 1, last, last + 1, last + 2} {
			m := api.Mem{Bytes: make([]byte, n)}
			layUsed(m.Bytes, 0, b.Queue.Last, api.Used{ID: uint32(r.Head), Len: 1}, b.Queue.Last+1)
			went := api.ErrIO
			if n > last {
				went = api.OK
			}
			doneCame(t, fmt.Sprintf("slot %d of %d bytes", i, n), m, b, back(b, i), i, went, api.OK)
		}
	}
}

// TestDonePoll: what layer 8's Poll calls an error is one, and the queue is as that leaves it.
func TestDonePoll(t *testing.T) {
	for seed := range uint64(3) {
		for _, b := range drivers(int(seed), 430, 50+seed) {
			base, last := b.Queue.Base, b.Queue.Last
			m := counted(1700)
			layUsed(m.Bytes, base, last, api.Used{Len: 1}, last)
			doneCame(t, "nothing came back", m, b, b, 0, api.OK, api.ErrNone)
			for _, ahead := range []uint16{uint16(len(b.Queue.Chains) + 1), 5, 17, 32768, 65535} {
				want := copyOf(b)
				want.Queue.Last = last + ahead
				layUsed(m.Bytes, base, last, api.Used{ID: uint32(b.Slots[0].Head), Len: 1}, last+ahead)
				doneCame(t, "too many came back", m, b, want, 0, api.OK, api.ErrUsed)
			}
			if len(b.Queue.Chains) == 0 {
				continue
			}
			want := copyOf(b)
			want.Queue.Last++
			c := b.Queue.Chains[0]
			for _, u := range []api.Used{
				{ID: uint32(b.Queue.Free[0]), Len: 1}, {ID: uint32(c.Descs[1]), Len: 1}, {ID: 16, Len: 1}, {ID: 1<<32 - 1, Len: 1}, {ID: uint32(c.Head) + 1<<16, Len: 1},
				{ID: uint32(c.Head), Len: 2}, {ID: uint32(c.Head), Len: 257}, {ID: uint32(c.Head), Len: 1<<32 - 1},
			} {
				layUsed(m.Bytes, base, last, u, last+1)
				doneCame(t, fmt.Sprintf("%+v", u), m, b, want, 0, api.OK, api.ErrUsed)
			}
		}
	}
}

func TestDoneNoRing(t *testing.T) {
	for _, b := range drivers(0, 430, 60) {
		for _, n := range []int{0, 1, 423, 8193} {
			doneCame(t, "no ring", counted(n), b, b, 0, api.OK, api.ErrRing)
		}
		for _, base := range []int{1700 - 423, 1700, 8192, math.MaxInt} {
			b.Queue.Base = base
			doneCame(t, "no ring", counted(1700), b, b, 0, api.OK, api.ErrRing)
		}
	}
	doneCame(t, "a zero value", api.Mem{}, api.Blk{}, api.Blk{}, 0, api.OK, api.ErrForm)
}

// TestDoneInAnyOrder: requests come back in each order of four, and what is done is told of the right one.
func TestDoneInAnyOrder(t *testing.T) {
	for code := range 24 {
		next := chance(uint64(code))
		b := driver(15, 3, 430, next)
		order := []int{0, 1, 2, 3}
		for i := range 3 {
			j := i + code%(4-i)
			code /= 4 - i
			order[i], order[j] = order[j], order[i]
		}
		m := counted(1700)
		for k, i := range order {
			m.Bytes[430+288*i+272] = byte(i % 2)
			layUsed(m.Bytes, 3, b.Queue.Last+uint16(k), api.Used{ID: uint32(b.Slots[i].Head), Len: 1}, b.Queue.Last+4)
		}
		for _, i := range order {
			went := api.ErrIO
			if i%2 == 0 {
				went = api.OK
			}
			doneCame(t, fmt.Sprintf("the order %v", order), m, b, back(b, i), i, went, api.OK)
			b, _, _, _ = Done(m, b)
		}
		doneCame(t, fmt.Sprintf("behind the order %v", order), m, b, b, 0, api.OK, api.ErrNone)
		if b.Slots != [4]api.Request{} || len(b.Queue.Free) != 16 {
			t.Fatalf("%+v", b)
		}
	}
}

// P9.4

// asked is a chain that lies in a memory, and both sides' numbers.
type asked struct {
	m     api.Mem
	s     api.Served
	head  int
	parts []api.Buf
}

// askedOf answers a chain of these parts, with a head that lies at the first one.
func askedOf(parts []api.Buf, kind, sector uint64) asked {
	a := asked{m: counted(2000), s: api.Served{Base: 5, Size: 16, Seen: 65535, Used: 40000}, parts: parts}
	at := parts[0].At
	layLow(a.m.Bytes, at, 4, kind)
	layLow(a.m.Bytes, at+8, 8, sector)
	order := shuffled(16, chance(kind+7*sector+uint64(len(parts))))
	a.head = order[0]
	for i, p := range parts {
		d := api.Desc{Addr: uint64(p.At), Len: uint32(p.Len)}
		if i < len(parts)-1 {
			d.Flags, d.Next = 1, uint16(order[i+1])
		}
		if p.Write {
			d.Flags |= 2
		}
		layDesc(a.m.Bytes, 5, order[i], d)
	}
	layAvail(a.m.Bytes, 5, 65535, a.head, 0)
	return a
}

// three are the parts of a request to write, as a driver has them.
func three() []api.Buf {
	return []api.Buf{{At: 700, Len: 16}, {At: 716, Len: 256}, {At: 972, Len: 1, Write: true}}
}

// two are those of a flush.
func two() []api.Buf { return []api.Buf{{At: 700, Len: 16}, {At: 972, Len: 1, Write: true}} }

// serveCame fails, unless Serve comes to this.
func serveCame(t *testing.T, what string, m api.Mem, s api.Served, d api.Disk, status int, want []byte, wantS api.Served, wantD api.Disk, err api.Errno) {
	t.Helper()
	was, wasD := bytes.Clone(m.Bytes), copyOfDisk(d)
	got, gotS, gotD, e := Serve(m, s, d, status)
	if e != err || gotS != wantS {
		t.Fatalf("%s: %+v, %d, not %+v, %d", what, gotS, e, wantS, err)
	}
	isAs(t, what, got, want)
	isDisk(t, what, gotD, wantD)
	isAs(t, what+": handed in", m, was)
	isDisk(t, what+": handed in", d, wasD)
}

// says fails, unless a device puts this status, gives the chain back, and has this disk.
func (a asked) says(t *testing.T, what string, d api.Disk, status int, said byte, wantD api.Disk) {
	t.Helper()
	want := bytes.Clone(a.m.Bytes)
	want[a.parts[len(a.parts)-1].At] = said
	layUsed(want, a.s.Base, a.s.Used, api.Used{ID: uint32(a.head), Len: 1}, a.s.Used+1)
	s := a.s
	s.Seen++
	s.Used++
	serveCame(t, what, a.m, a.s, d, status, want, s, wantD, api.OK)
}

// refuses fails, unless a device passes over a chain, and does nothing else.
func (a asked) refuses(t *testing.T, what string, d api.Disk) {
	t.Helper()
	s := a.s
	s.Seen++
	for _, status := range []int{0, 1, 255, 256, -1} {
		serveCame(t, what, a.m, a.s, d, status, a.m.Bytes, s, d, api.ErrRing)
	}
}

// written answers a disk with one more write.
func written(d api.Disk, at int, data []byte) api.Disk {
	d = copyOfDisk(d)
	d.Cache = append(d.Cache, api.Write{At: at, Data: data})
	return d
}

// flushed answers a disk whose writes are in its sectors.
func flushed(d api.Disk) api.Disk {
	d = copyOfDisk(d)
	for _, w := range d.Cache {
		d.Sectors[w.At] = w.Data
	}
	d.Cache = nil
	return d
}

func TestServeKinds(t *testing.T) {
	d := diskOf(5, 3)
	for _, kind := range []uint64{0, 1, 2, 3, 4, 5, 6, 255, 256, 257, 260, 1 << 16, 1<<16 + 1, 1<<16 + 4, 1 << 24, 1<<24 + 1, 1<<31 + 1, 1<<31 + 4, 1<<32 - 1} {
		w, f := askedOf(three(), kind, 2), askedOf(two(), kind, 2)
		what := fmt.Sprintf("kind %d", kind)
		switch kind {
		case 1:
			w.says(t, what, d, 0, 0, written(d, 2, w.m.Bytes[716:972]))
			f.says(t, what+" of two", d, 0, 1, d)
		case 4:
			w.says(t, what+" of three", d, 0, 0, flushed(d))
			f.says(t, what, d, 0, 0, flushed(d))
		default:
			w.says(t, what, d, 0, 1, d)
			f.says(t, what, d, 0, 1, d)
		}
	}
}

// TestServeHead: of a head its kind and its sector count, and nothing else.
func TestServeHead(t *testing.T) {
	d := diskOf(5, 1)
	for i := range uint64(5) {
		a := askedOf(three(), 1, i)
		for _, x := range []uint64{0, 1, 4, 1 << 31, 1<<32 - 1} {
			layLow(a.m.Bytes, 704, 4, x)
			a.says(t, "bytes between them", d, 0, 0, written(d, int(i), a.m.Bytes[716:972]))
		}
	}
}

func TestServeSectors(t *testing.T) {
	for _, n := range []int{0, 1, 5, 256} {
		d := diskOf(n, min(n, 2))
		for _, round := range []uint64{0, 1 << 31, 1 << 32, 1<<32 + 1<<31, 1 << 62, 1<<63 + 1<<31, math.MaxUint64 - 1<<31 + 1} {
			for _, sector := range []uint64{0, 1, 4, 5, 255, 256, 65536, 1 << 30, 1<<31 - 1} {
				a := askedOf(three(), 1, round+sector)
				what := fmt.Sprintf("sector %d of %d", round+sector, n)
				if sector < uint64(n) {
					a.says(t, what, d, 0, 0, written(d, int(sector), a.m.Bytes[716:972]))
				} else {
					a.says(t, what, d, 0, 1, d)
				}
				// A flush asks for no sector.
				askedOf(two(), 4, round+sector).says(t, what, d, 0, 0, flushed(d))
			}
		}
	}
}

// TestServeFull: what layer 5 refuses besides: one more write than there may be.
func TestServeFull(t *testing.T) {
	a, f := askedOf(three(), 1, 0), askedOf(two(), 4, 0)
	d := diskOf(3, 511)
	a.says(t, "one more", d, 0, 0, written(d, 0, a.m.Bytes[716:972]))
	d = diskOf(3, 512)
	a.says(t, "one too many", d, 0, 1, d)
	f.says(t, "a flush of all", d, 0, 0, flushed(d))
}

func TestServeStatus(t *testing.T) {
	d := diskOf(5, 3)
	for _, status := range []int{0, 256, 512, -256, 1 << 16, 1 << 31, 1 << 32, -1 << 32, 1 << 62, math.MinInt} {
		what := fmt.Sprintf("status %d", status)
		a := askedOf(three(), 1, 3)
		a.says(t, what, d, status, 0, written(d, 3, a.m.Bytes[716:972]))
		askedOf(two(), 4, 3).says(t, what, d, status, 0, flushed(d))
		askedOf(three(), 1, 5).says(t, what, d, status, 1, d)
		askedOf(three(), 7, 3).says(t, what, d, status, 1, d)
		askedOf(two(), 1, 3).says(t, what, d, status, 1, d)
	}
	for status, said := range map[int]byte{
		1: 1, 2: 2, 127: 127, 128: 128, 254: 254, 255: 255, 257: 1, 258: 2, 511: 255, -1: 255, -2: 254, -255: 1, -257: 255, 1<<32 + 9: 9, math.MaxInt: 255, math.MinInt + 3: 3,
	} {
		what := fmt.Sprintf("status %d", status)
		for _, kind := range []uint64{0, 1, 4, 9} {
			for _, sector := range []uint64{0, 4, 5} {
				askedOf(three(), kind, sector).says(t, what, d, status, said, d)
				askedOf(two(), kind, sector).says(t, what, d, status, said, d)
			}
		}
	}
}

// TestServeNoDisk: a disk that may not be is not written to, nor flushed, and stays as it is.
func TestServeNoDisk(t *testing.T) {
	short, long, beyond := diskOf(5, 3), diskOf(5, 3), diskOf(5, 3)
	short.Sectors[2] = short.Sectors[2][:255]
	long.Cache[1].Data = append(long.Cache[1].Data, 7)
	beyond.Cache[0].At = 5
	for i, d := range []api.Disk{short, long, beyond, diskOf(257, 0), diskOf(5, 513)} {
		what := fmt.Sprintf("a disk that may not be, %d", i)
		askedOf(three(), 1, 1).says(t, what, d, 0, 1, d)
		askedOf(two(), 4, 0).says(t, what, d, 0, 1, d)
		askedOf(three(), 9, 0).says(t, what, d, 0, 1, d)
		askedOf(three(), 1, 1).says(t, what, d, 5, 5, d)
		bad := askedOf([]api.Buf{{At: 700, Len: 15}, {At: 972, Len: 1, Write: true}}, 4, 0)
		bad.refuses(t, what, d)
	}
	askedOf(two(), 4, 0).says(t, "a zero value", api.Disk{}, 0, 0, api.Disk{})
	askedOf(three(), 1, 0).says(t, "a zero value", api.Disk{}, 0, 1, api.Disk{})
}

// TestServeParts: which chains are requests at all, and which of them may be written.
func TestServeParts(t *testing.T) {
	d := diskOf(5, 3)
	for n := 1; n <= 16; n++ {
		for _, first := range []int{1, 15, 16, 17, 256} {
			for _, second := range []int{1, 16, 255, 256, 257} {
				for _, last := range []int{1, 2, 16, 256} {
					for mask := range 8 {
						parts := make([]api.Buf, n)
						for i := range parts {
							parts[i] = api.Buf{At: 1300 + 7*i, Len: 3 + i, Write: i%2 == 0}
						}
						parts[min(1, n-1)] = api.Buf{At: 800, Len: second, Write: mask>>1%2 == 1}
						parts[n-1] = api.Buf{At: 1200, Len: last, Write: mask>>2%2 == 1}
						if n > 1 {
							parts[0] = api.Buf{At: 500, Len: first, Write: mask%2 == 1}
						}
						for _, kind := range []uint64{1, 4} {
							a := askedOf(parts, kind, 3)
							what := fmt.Sprintf("kind %d of %+v", kind, parts)
							switch {
							case n == 1 || first != 16 || last != 1 || mask < 4:
								a.refuses(t, what, d)
							case kind == 4:
								a.says(t, what, d, 0, 0, flushed(d))
							case n == 3 && second == 256:
								a.says(t, what, d, 0, 0, written(d, 3, a.m.Bytes[800:1056]))
							default:
								a.says(t, what, d, 0, 1, d)
							}
						}
					}
				}
			}
		}
	}
}

// TestServeOnePart: one part can't be both, whatever it has.
func TestServeOnePart(t *testing.T) {
	d := diskOf(5, 3)
	for n := 1; n <= 20; n++ {
		for _, write := range []bool{false, true} {
			askedOf([]api.Buf{{At: 700, Len: n, Write: write}}, 4, 0).refuses(t, "one part", d)
		}
	}
}

// TestServeOver: parts may lie over one another: what is read is read ahead of what is put.
func TestServeOver(t *testing.T) {
	d := diskOf(5, 3)
	for at := 690; at < 980; at += 3 {
		parts := three()
		parts[2].At = at
		a := askedOf(parts, 1, 3)
		a.says(t, "a status over all else", d, 0, 0, written(d, 3, a.m.Bytes[716:972]))
		a.says(t, "a status over all else", d, 77, 77, d)
		parts = two()
		parts[1].At = at
		askedOf(parts, 4, 3).says(t, "a status over all else", d, 0, 0, flushed(d))
	}
	// The status is put first, then it is given back: what is used stands over it.
	parts := two()
	parts[1].At = 5 + 294
	a := askedOf(parts, 4, 0)
	a.says(t, "a status over the ring", d, 77, 77, d)
}

// TestServeNext: what layer 8's Next calls an error is one, with what that says of how far it came.
func TestServeNext(t *testing.T) {
	d := diskOf(5, 3)
	for _, status := range []int{0, 1, 255, 256, -1} {
		for _, i := range []uint16{0, 1, 65535} {
			m := counted(2000)
			layAvail(m.Bytes, 5, i, 3, i)
			s := api.Served{Base: 5, Size: 16, Seen: i, Used: 9}
			serveCame(t, "nothing waits", m, s, d, status, m.Bytes, s, d, api.ErrNone)
		}
		for _, s := range []api.Served{{}, {Size: 3}, {Base: -1, Size: 16}, {Base: 2000 - 423, Size: 16}, {Base: math.MaxInt, Size: 16}, {Size: -16}, {Base: 5, Size: 17}} {
			serveCame(t, "no ring", counted(2000), s, d, status, counted(2000).Bytes, s, d, api.ErrRing)
			serveCame(t, "no ring", api.Mem{}, s, d, status, nil, s, d, api.ErrRing)
		}
		s := api.Served{Base: 5, Size: 16}
		serveCame(t, "too much memory", counted(8193), s, d, status, counted(8193).Bytes, s, d, api.ErrRing)
	}
	for _, last := range []api.Buf{{At: 972, Write: true}, {At: 2000, Len: 1, Write: true}, {At: 8192, Len: 1, Write: true}, {At: 0, Len: 0}, {At: 1 << 40, Len: 1, Write: true}} {
		for _, parts := range [][]api.Buf{{two()[0], last}, {three()[0], three()[1], last}} {
			askedOf(parts, 1, 3).refuses(t, "no last part", d)
			askedOf(parts, 4, 3).refuses(t, "no last part", d)
		}
	}
	for i := range 3 {
		for _, p := range []api.Buf{{At: 700}, {At: 1999, Len: 2}, {At: 1 << 33, Len: 16}} {
			a := askedOf(three(), 1, 3)
			order := shuffled(16, chance(1+7*3+3))
			layDesc(a.m.Bytes, 5, order[i], api.Desc{Addr: uint64(p.At), Len: uint32(p.Len), Flags: 1, Next: uint16(order[i+1])})
			a.refuses(t, "a part that may not be", d)
		}
		a := askedOf(three(), 1, 3)
		order := shuffled(16, chance(1+7*3+3))
		layDesc(a.m.Bytes, 5, order[i], api.Desc{Addr: 700, Len: 16, Flags: 1, Next: uint16(order[0])})
		a.refuses(t, "a chain that goes round", d)
		layDesc(a.m.Bytes, 5, order[i], api.Desc{Addr: 700, Len: 16, Flags: 1, Next: 16})
		a.refuses(t, "a chain that goes beyond", d)
	}
	for _, head := range []int{16, 17, 65535} {
		a := askedOf(three(), 1, 3)
		layAvail(a.m.Bytes, 5, 65535, head, 0)
		a.refuses(t, "no head", d)
	}
}

// TestServeSmall: rings of other sizes may be served, too.
func TestServeSmall(t *testing.T) {
	m, q, e := queue.New(counted(600), 4, 4)
	layLow(m.Bytes, 200, 4, 1)
	layLow(m.Bytes, 208, 8, 2)
	m, _, _, f := queue.Add(m, q, []api.Buf{{At: 200, Len: 16}, {At: 216, Len: 256}, {At: 500, Len: 1, Write: true}})
	d := diskOf(5, 0)
	got, s, now, g := Serve(m, queue.Serve(4, 4), d, 0)
	if max(e, f, g) != api.OK || got.Bytes[500] != 0 || s.Used != 1 {
		t.Fatal(e, f, g, s)
	}
	isDisk(t, "a ring of four", now, written(d, 2, m.Bytes[216:472]))
}

// P9.5, and what a driver and a device do together.

// both are a driver and a device of one ring, what is to be told of them, and of their disk.
type both struct {
	m       api.Mem
	b       api.Blk
	s       api.Served
	d       api.Disk
	sectors [][]byte // what the disk has, by what went well
	safe    [][]byte // what it has behind any crash
	out     []lent   // handed over, in order
	back    []lent   // served, in order
}

// lent is a request that was handed over, in a slot, and how it went.
type lent struct {
	request
	slot int
	went api.Errno
}

// ask hands one over.
func (p *both) ask(t *testing.T, next func(int) int) {
	t.Helper()
	r := request{sector: next(7), data: dataOf(256, next(1<<30))}
	if next(4) == 0 {
		r = request{flush: true}
	}
	if len(p.out)+len(p.back) == 4 {
		handsNot(t, "all are busy", p.m, p.b, r, api.ErrFull)
		return
	}
	slot := slices.IndexFunc(p.b.Slots[:], func(r api.Request) bool { return !r.Busy })
	p.m, p.b = hands(t, "one of many", p.m, p.b, r)
	p.out = append(p.out, lent{request: r, slot: slot})
}

// serve does the next one, or lets it fail.
func (p *both) serve(t *testing.T, status int) {
	t.Helper()
	m, s, d, e := Serve(p.m, p.s, p.d, status)
	if len(p.out) == 0 {
		if e != api.ErrNone || s != p.s {
			t.Fatalf("nothing waits: %d", e)
		}
		isAs(t, "nothing waits", m, p.m.Bytes)
		isDisk(t, "nothing waits", d, p.d)
		return
	}
	if e != api.OK {
		t.Fatalf("Serve: %d", e)
	}
	l := p.out[0]
	p.out = p.out[1:]
	switch {
	case status != 0 || l.sector >= len(p.sectors) || !l.flush && len(p.d.Cache) == 512:
		l.went = api.ErrIO
	case l.flush:
		p.safe = slices.Clone(p.sectors)
	default:
		p.sectors[l.sector] = l.data
	}
	p.m, p.s, p.d = m, s, d
	p.back = append(p.back, l)
}

// done looks what came back.
func (p *both) done(t *testing.T) {
	t.Helper()
	b, n, went, e := Done(p.m, p.b)
	if len(p.back) == 0 {
		if e != api.ErrNone || n != 0 || went != api.OK {
			t.Fatalf("nothing came back: %d, %d, %d", n, went, e)
		}
		isBlk(t, "nothing came back", b, p.b)
		return
	}
	if l := p.back[0]; e != api.OK || n != l.slot || went != l.went {
		t.Fatalf("%d, %d, %d, not %d, %d", n, went, e, l.slot, l.went)
	}
	p.b, p.back = b, p.back[1:]
}

// holds fails, unless the disk has what went well, and nothing else, and what was flushed behind a crash.
func (p *both) holds(t *testing.T) {
	t.Helper()
	if !Check(p.b) || len(p.b.Queue.Chains) != len(p.out)+len(p.back) {
		t.Fatalf("%+v", p.b)
	}
	lost, e := disk.Crash(p.d, nil)
	if e != api.OK {
		t.Fatal(e)
	}
	for at := range p.sectors {
		b, e := disk.Read(p.d, at)
		if e != api.OK || !bytes.Equal(b, p.sectors[at]) {
			t.Fatalf("sector %d is not what went well: %d", at, e)
		}
		if b, e = disk.Read(lost, at); e != api.OK || !bytes.Equal(b, p.safe[at]) {
			t.Fatalf("sector %d is not what was flushed: %d", at, e)
		}
	}
}

// TestWhatWentWell: what went well is on the disk, and what did not is not, while the indices turn round.
func TestWhatWentWell(t *testing.T) {
	for seed := range 12 {
		next := chance(uint64(seed))
		m, b, e := New(counted(1700), seed, 440+seed)
		d, f := disk.New(6)
		if e != api.OK || f != api.OK {
			t.Fatal(e, f)
		}
		s := queue.Serve(seed, 16)
		i := uint16(65536 - 40*seed)
		b.Queue.Avail, b.Queue.Last, s.Seen, s.Used = i, i, i, i
		layAvail(m.Bytes, seed, 0, 0, i)
		layUsed(m.Bytes, seed, 0, api.Used{}, i)
		p := &both{m: m, b: b, s: s, d: d}
		for range 6 {
			p.sectors = append(p.sectors, make([]byte, 256))
			p.safe = append(p.safe, make([]byte, 256))
		}
		for range 400 {
			switch next(3) {
			case 0:
				p.ask(t, next)
			case 1:
				p.serve(t, []int{0, 0, 0, 0, 1, 200, 255}[next(7)])
			case 2:
				p.done(t)
			}
			p.holds(t)
		}
	}
}

// TestWhateverADeviceSays: whatever is written into a ring, or over statuses, the driver Checks, and what is told to be done was busy.
func TestWhateverADeviceSays(t *testing.T) {
	came := make(map[api.Errno]int)
	for seed := range 30 {
		next := chance(uint64(700 + seed))
		m, b, _ := New(counted(1700), 0, 440)
		for range 400 {
			was := copyOf(b)
			if next(2) == 0 {
				m, b, _, _ = request{flush: next(3) == 0, sector: next(256), data: dataOf(256, next(999))}.call(m, b)
				continue
			}
			m = api.Mem{Bytes: bytes.Clone(m.Bytes)}
			u := api.Used{ID: uint32(next(17)), Len: uint32(next(3))}
			if n := len(b.Queue.Chains); n > 0 && next(3) > 0 {
				u.ID = uint32(b.Queue.Chains[next(n)].Head)
			}
			layUsed(m.Bytes, 0, b.Queue.Last, u, b.Queue.Last+uint16(next(6)))
			m.Bytes[440+288*next(4)+272] = byte(next(3))
			now, n, went, e := Done(m, b)
			if !Check(now) || e == api.OK && (!was.Slots[n].Busy || now.Slots[n].Busy) || e != api.OK && (n != 0 || went != api.OK || now.Slots != was.Slots) {
				t.Fatalf("%+v, %d, %d, %d", now, n, went, e)
			}
			if e == api.OK && went == api.OK && (u.Len != 1 || m.Bytes[440+288*n+272] != 0) {
				t.Fatalf("%d went well", n)
			}
			came[e]++
			came[went]++
			b = now
		}
	}
	if came[api.OK] < 500 || came[api.ErrUsed] < 500 || came[api.ErrNone] < 200 || came[api.ErrIO] < 200 {
		t.Errorf("errors: %v", came)
	}
}

// TestWhateverADriverSays: whatever is written into a ring, a device ends, and changes the disk by a write or a flush alone.
func TestWhateverADriverSays(t *testing.T) {
	came := make(map[string]int)
	for seed := range 3000 {
		next := chance(uint64(seed))
		m := counted(1500)
		for i := range 16 {
			d := api.Desc{Addr: uint64(next(1501)), Len: []uint32{0, 1, 1, 16, 16, 255, 256, 256}[next(8)], Flags: uint16(next(8)), Next: uint16(next(17))}
			layDesc(m.Bytes, 0, i, d)
		}
		s := api.Served{Size: 16, Seen: uint16(next(65536))}
		head := next(16)
		layAvail(m.Bytes, 0, s.Seen, head, s.Seen+1)
		// The first part is a head, mostly, and lies ahead of all else; a third part is a status, mostly.
		if next(8) > 0 {
			second, third := next(16), next(16)
			layDesc(m.Bytes, 0, third, api.Desc{Addr: uint64(800 + next(700)), Len: uint32(1 + next(8)/7), Flags: uint16(2 - next(8)/7)})
			layDesc(m.Bytes, 0, second, api.Desc{Addr: uint64(500 + next(800)), Len: uint32(255 + next(3)), Flags: 1, Next: uint16(third)})
			layDesc(m.Bytes, 0, head, api.Desc{Addr: 430, Len: 16, Flags: 1, Next: uint16([]int{second, second, third, next(17)}[next(4)])})
			layLow(m.Bytes, 430, 8, []uint64{0, 1, 1, 4}[next(4)])
			layLow(m.Bytes, 438, 8, uint64(next(4)))
		}
		d := diskOf(3, 2)
		_, _, l, e := queue.Next(m, s)
		got, gotS, gotD, f := Serve(m, s, d, 0)
		if gotS.Seen != s.Seen+1 {
			t.Fatalf("%+v", gotS)
		}
		if e != api.OK || l[0].Len != 16 || l[len(l)-1].Len != 1 || !l[len(l)-1].Write {
			if f != api.ErrRing || gotS.Used != 0 {
				t.Fatalf("%+v: %d", l, f)
			}
			isAs(t, "refused", got, m.Bytes)
			isDisk(t, "refused", gotD, d)
			came["refused"]++
			continue
		}
		kind, sector := low(m.Bytes[l[0].At:l[0].At+4]), low(m.Bytes[l[0].At+8:l[0].At+16])%(1<<31)
		want, said := d, byte(1)
		switch {
		case kind == 1 && len(l) == 3 && l[1].Len == 256 && sector < 3:
			want, said = written(d, int(sector), m.Bytes[l[1].At:l[1].At+256]), 0
			came["written"]++
		case kind == 4:
			want, said = flushed(d), 0
			came["flushed"]++
		default:
			came["failed"]++
		}
		bytesWant := bytes.Clone(m.Bytes)
		bytesWant[l[len(l)-1].At] = said
		layUsed(bytesWant, 0, 0, api.Used{ID: uint32(head), Len: 1}, 1)
		if f != api.OK || gotS.Used != 1 {
			t.Fatalf("%+v: %d", gotS, f)
		}
		isAs(t, "done", got, bytesWant)
		isDisk(t, "done", gotD, want)
	}
	if min(came["refused"], came["written"], came["flushed"], came["failed"]) < 100 {
		t.Errorf("%v", came)
	}
}

// R3: lists that nobody shares.

// wipe overwrites a list, and what room there is behind it.
func wipe[T any](l []T, with T) {
	l = l[:cap(l)]
	for i := range l {
		l[i] = with
	}
}

// wipeBlk overwrites all lists of a driver.
func wipeBlk(b api.Blk) {
	for _, c := range b.Queue.Chains {
		wipe(c.Descs, -7)
	}
	wipe(b.Queue.Free, -7)
	wipe(b.Queue.Chains, api.Chain{Head: -7})
}

// wipeDisk overwrites all lists of a disk.
func wipeDisk(d api.Disk) {
	for _, sector := range d.Sectors {
		wipe(sector, 0xEE)
	}
	for _, w := range d.Cache {
		wipe(w.Data, 0xEE)
	}
	wipe(d.Sectors, nil)
	wipe(d.Cache, api.Write{At: -7})
}

// TestNothingShared: what is answered is the caller's own, also where a call is refused.
func TestNothingShared(t *testing.T) {
	for _, n := range []int{300, 500, 1700, 8193} {
		for _, b := range append(drivers(0, 430, 77), noBlks()...) {
			b = copyOf(b)
			was := copyOf(b)
			for _, r := range append(good()[:3], bad()[:4]...) {
				m, data := counted(n), bytes.Clone(r.data)
				got, gotB, _, _ := r.call(m, b)
				wipe(got.Bytes, 0xEE)
				wipeBlk(gotB)
				isAs(t, "handed in", m, counted(n).Bytes)
				isBlk(t, "handed in", b, was)
				if !bytes.Equal(r.data, data) {
					t.Fatal("the data that was handed in was changed")
				}
			}
			for _, r := range b.Slots {
				for ahead := range uint16(3) {
					m := counted(n)
					if n > 424 {
						layUsed(m.Bytes, 0, b.Queue.Last, api.Used{ID: uint32(r.Head), Len: 1}, b.Queue.Last+ahead)
					}
					gotB, _, _, _ := Done(m, b)
					wipeBlk(gotB)
					isBlk(t, "Done: handed in", b, was)
				}
			}
		}
		for _, base := range []int{-1, 0, 100, n} {
			for _, at := range []int{-1, 0, 430, n} {
				m := counted(n)
				got, b, _ := New(m, base, at)
				wipe(got.Bytes, 0xEE)
				wipeBlk(b)
				isAs(t, "New: handed in", m, counted(n).Bytes)
			}
		}
	}
}

func TestNothingSharedServe(t *testing.T) {
	odd := diskOf(5, 3)
	odd.Cache[1].Data = nil
	for _, d := range []api.Disk{{}, diskOf(5, 0), diskOf(5, 3), diskOf(3, 512), odd} {
		was := copyOfDisk(d)
		for _, kind := range []uint64{0, 1, 4} {
			for _, parts := range [][]api.Buf{three(), two(), {three()[0]}, {three()[0], {At: 5, Len: 0}}} {
				for _, status := range []int{0, 1} {
					for _, base := range []int{-1, 5} {
						a := askedOf(parts, kind, 2)
						a.s.Base = base
						m := bytes.Clone(a.m.Bytes)
						got, _, gotD, _ := Serve(a.m, a.s, d, status)
						wipe(got.Bytes, 0xEE)
						wipeDisk(gotD)
						isAs(t, "Serve: handed in", a.m, m)
						isDisk(t, "Serve: handed in", d, was)
					}
				}
			}
		}
	}
}

// TestNoTwoShare: no two lists of an answer share any memory, also where those that were handed in were cut from one.
func TestNoTwoShare(t *testing.T) {
	b := drivers(0, 430, 78)[7]
	one := slices.Clone(b.Queue.Free)
	for i, c := range b.Queue.Chains {
		at := len(one)
		one = append(one[:at:at], c.Descs...)
		b.Queue.Chains[i].Descs = one[at:]
	}
	b.Queue.Free = one[:len(b.Queue.Free)]
	hold := func(what string, b api.Blk) {
		t.Helper()
		was := copyOf(b)
		for i := range b.Queue.Chains {
			wipe(b.Queue.Chains[i].Descs[len(b.Queue.Chains[i].Descs):], -7)
			_ = append(b.Queue.Chains[i].Descs, -7)
			isBlk(t, what, b, was)
		}
		wipe(b.Queue.Free[len(b.Queue.Free):], -7)
		isBlk(t, what, b, was)
		for i, c := range b.Queue.Chains {
			for j := range c.Descs {
				c.Descs[j] = -1 - i
			}
		}
		for i, c := range b.Queue.Chains {
			for _, x := range c.Descs {
				if x != -1-i {
					t.Fatalf("%s: chains share memory", what)
				}
			}
		}
		if !slices.Equal(b.Queue.Free, was.Queue.Free) {
			t.Fatalf("%s: a chain and what is free share memory", what)
		}
	}
	for _, r := range append(good()[:2], bad()[0]) {
		_, got, _, _ := r.call(counted(1700), b)
		hold("a request", got)
	}
	for ahead := range uint16(3) {
		m := counted(1700)
		layUsed(m.Bytes, 0, b.Queue.Last, api.Used{ID: uint32(b.Slots[1].Head), Len: 1}, b.Queue.Last+ahead)
		got, _, _, _ := Done(m, b)
		hold("Done", got)
	}
	whole := dataOf(256*8, 1)
	var d api.Disk
	for i := range 5 {
		d.Sectors = append(d.Sectors, whole[256*i:256*i+256])
	}
	for i := range 3 {
		d.Cache = append(d.Cache, api.Write{At: 1, Data: whole[256*(5+i) : 256*(6+i)]})
	}
	for _, kind := range []uint64{0, 1, 4} {
		for _, status := range []int{0, 1} {
			a := askedOf(three(), kind, 2)
			_, _, got, _ := Serve(a.m, a.s, d, status)
			was := copyOfDisk(got)
			for _, sector := range got.Sectors {
				wipe(sector[len(sector):], 0xEE)
				_ = append(sector, 0xEE)
				isDisk(t, "Serve", got, was)
			}
			for _, w := range got.Cache {
				wipe(w.Data[len(w.Data):], 0xEE)
				_ = append(w.Data, 0xEE)
				isDisk(t, "Serve", got, was)
			}
		}
	}
}
