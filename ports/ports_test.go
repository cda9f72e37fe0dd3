package ports

import (
	"bytes"
	"math"
	"slices"
	"testing"

	"phonograph/api"
)

// latest is the latest time that there is.
const latest = uint64(1) << 40

// pattern is bits of both kinds, of which no line's neighbours are alike everywhere.
const pattern = uint32(0xA5C30F96)

// lot answers n bytes, each unlike its neighbours, told by a number.
func lot(n, k int) []byte {
	b := make([]byte, n)
	for i := range b {
		b[i] = byte(37*i + 101*k + 1)
	}
	return b
}

// copied answers ports that have nothing in common with those that they were copied from.
func copied(p api.Ports) api.Ports {
	return api.Ports{Lines: p.Lines, Mask: p.Mask, Clock: p.Clock, Pool: append([]byte(nil), p.Pool...)}
}

// alike tells whether two ports are the same in all they have.
func alike(a, b api.Ports) bool {
	return a.Lines == b.Lines && a.Mask == b.Mask && a.Clock == b.Clock && bytes.Equal(a.Pool, b.Pool)
}

// isAs fails, unless ports are as they should be.
func isAs(t *testing.T, what string, got, want api.Ports) {
	t.Helper()
	if !alike(got, want) {
		t.Fatalf("%s: %08x, %08x, %d, %x (%d bytes), not %08x, %08x, %d, %x (%d)", what,
			got.Lines, got.Mask, got.Clock, got.Pool, len(got.Pool), want.Lines, want.Mask, want.Clock, want.Pool, len(want.Pool))
	}
}

// came fails, unless a call came to this error, and to these ports.
func came(t *testing.T, what string, got api.Ports, e api.Errno, want api.Ports, err api.Errno) {
	t.Helper()
	if e != err {
		t.Fatalf("%s: %d, not %d", what, e, err)
	}
	isAs(t, what, got, want)
}

// mayBe are ports that Check.
func mayBe() []api.Ports {
	l := []api.Ports{
		{}, {Pool: []byte{}},
		{Lines: math.MaxUint32}, {Mask: math.MaxUint32}, {Lines: math.MaxUint32, Mask: math.MaxUint32},
		{Lines: pattern, Mask: ^pattern}, {Lines: ^pattern, Mask: pattern},
	}
	for _, clock := range []uint64{0, 1, 5, 1 << 32, latest - 1, latest} {
		for _, n := range []int{0, 1, 2, 32, 63, 64} {
			l = append(l, api.Ports{Lines: pattern, Mask: pattern >> 3, Clock: clock, Pool: lot(n, n)})
		}
	}
	return l
}

// mayNotBe are ports that do not Check.
func mayNotBe() map[string]api.Ports {
	m := map[string]api.Ports{
		"a clock of 2^40 + 1, all else zero": {Clock: latest + 1},
		"a pool of 65, all else zero":        {Pool: lot(65, 1)},
		"both too great":                     {Lines: pattern, Mask: pattern, Clock: latest + 1, Pool: lot(65, 1)},
		"both far too great":                 {Lines: pattern, Mask: pattern, Clock: math.MaxUint64, Pool: lot(5000, 1)},
	}
	for name, clock := range map[string]uint64{
		"a clock of 2^40 + 1": latest + 1, "2^40 + 2": latest + 2, "2^41": latest * 2, "2^63": 1 << 63, "2^64 - 1": math.MaxUint64,
	} {
		m[name] = api.Ports{Lines: math.MaxUint32, Mask: math.MaxUint32, Clock: clock, Pool: lot(7, 2)}
	}
	for name, n := range map[string]int{"a pool of 65": 65, "66": 66, "128": 128, "256": 256, "320": 320, "65536": 65536} {
		m[name] = api.Ports{Lines: math.MaxUint32, Mask: math.MaxUint32, Clock: 9, Pool: lot(n, 3)}
	}
	return m
}

// noLines are numbers of lines that there are not, on both sides.
func noLines() []int {
	return []int{
		-1, -2, -31, -32, -33, -64, -256, -1 << 32, -1<<32 + 3, math.MinInt, math.MinInt + 1, math.MinInt + 31,
		32, 33, 35, 63, 64, 67, 255, 256, 1 << 31, 1 << 32, 1<<32 + 3, math.MaxInt - 1, math.MaxInt,
	}
}

// with answers bits with one as it is told. It shifts nothing.
func with(bits uint32, line int, on bool) uint32 {
	worth := uint32(1)
	for range line {
		worth *= 2
	}
	switch is := bits/worth%2 == 1; {
	case on && !is:
		return bits + worth
	case !on && is:
		return bits - worth
	}
	return bits
}

// P6.1

func TestCheck(t *testing.T) {
	for _, p := range mayBe() {
		if !Check(p) {
			t.Errorf("a clock of %d and a pool of %d may be", p.Clock, len(p.Pool))
		}
	}
	for name, p := range mayNotBe() {
		if Check(p) {
			t.Errorf("it may not be: %s", name)
		}
	}
	for n, want := range map[int]bool{0: true, 63: true, 64: true, 65: false} {
		for clock, soon := range map[uint64]bool{0: true, latest - 1: true, latest: true, latest + 1: false} {
			if got := Check(api.Ports{Clock: clock, Pool: lot(n, 1)}); got != (want && soon) {
				t.Errorf("a clock of %d and a pool of %d: %v", clock, n, got)
			}
		}
	}
}

// TestForm: of ports that do not Check ErrForm comes first, whatever else is wrong, and they stay as they were.
func TestForm(t *testing.T) {
	for name, p := range mayNotBe() {
		was := copied(p)
		refused := func(call string, got api.Ports, e api.Errno) {
			t.Helper()
			came(t, call+" of "+name, got, e, was, api.ErrForm)
			isAs(t, call+" of "+name+", handed in", p, was)
		}
		for _, line := range append(noLines(), 0, 1, 3, 30, 31) {
			got, e := Raise(p, line)
			refused("Raise", got, e)
			got, e = Done(p, line)
			refused("Done", got, e)
			for _, on := range []bool{true, false} {
				got, e = Hear(p, line, on)
				refused("Hear", got, e)
			}
		}
		if line := Pending(p); line != -1 {
			t.Fatalf("Pending of %s: %d", name, line)
		}
		for _, at := range []uint64{0, 1, 8, 9, 10, latest - 1, latest, latest + 1, latest + 2, math.MaxUint64} {
			got, e := Tick(p, at)
			refused("Tick", got, e)
		}
		for _, b := range [][]byte{nil, {}, {1}, lot(57, 1), lot(64, 1), lot(65, 1), lot(5000, 1)} {
			got, e := Fill(p, b)
			refused("Fill", got, e)
		}
		for _, n := range []int{math.MinInt, -1, 0, 1, 7, 8, 64, 65, 66, 5000, math.MaxInt} {
			got, b, e := Draw(p, n)
			refused("Draw", got, e)
			if len(b) != 0 {
				t.Fatalf("Draw(%d) of %s: %x", n, name, b)
			}
		}
	}
}

// P6.2

// TestExample: the chapter's.
func TestExample(t *testing.T) {
	p, e := Raise(api.Ports{}, 3)
	if line := Pending(p); e != api.OK || line != -1 {
		t.Errorf("raised: %d, %d", line, e)
	}
	p, e = Hear(p, 3, true)
	if line := Pending(p); e != api.OK || line != 3 {
		t.Errorf("raised and heard: %d, %d", line, e)
	}
	p, e = Done(p, 3)
	if line := Pending(p); e != api.OK || line != -1 {
		t.Errorf("done: %d, %d", line, e)
	}
	isAs(t, "done", p, api.Ports{Mask: 8})
}

// TestLines: each call sets its bit as it should be, was it set or not, and leaves all other bits as they were.
func TestLines(t *testing.T) {
	for _, p := range mayBe() {
		was := copied(p)
		for line := range 32 {
			want := copied(p)
			want.Lines = with(was.Lines, line, true)
			got, e := Raise(p, line)
			came(t, "Raise", got, e, want, api.OK)

			want.Lines = with(was.Lines, line, false)
			got, e = Done(p, line)
			came(t, "Done", got, e, want, api.OK)

			want.Lines = was.Lines
			for _, on := range []bool{true, false} {
				want.Mask = with(was.Mask, line, on)
				got, e = Hear(p, line, on)
				came(t, "Hear", got, e, want, api.OK)
			}
			isAs(t, "handed in", p, was)
		}
	}
}

func TestNoLines(t *testing.T) {
	for _, p := range mayBe() {
		was := copied(p)
		for _, line := range noLines() {
			got, e := Raise(p, line)
			came(t, "Raise", got, e, was, api.ErrArg)
			got, e = Done(p, line)
			came(t, "Done", got, e, was, api.ErrArg)
			for _, on := range []bool{true, false} {
				got, e = Hear(p, line, on)
				came(t, "Hear", got, e, was, api.ErrArg)
			}
			isAs(t, "handed in", p, was)
		}
	}
}

// TestAgain: what is set already, or is not, is so as well when it is asked for once more.
func TestAgain(t *testing.T) {
	for line := range 32 {
		p := api.Ports{Lines: pattern, Mask: ^pattern, Clock: 5, Pool: lot(3, 1)}
		for what, call := range map[string]func(api.Ports) (api.Ports, api.Errno){
			"Raise":    func(p api.Ports) (api.Ports, api.Errno) { return Raise(p, line) },
			"Done":     func(p api.Ports) (api.Ports, api.Errno) { return Done(p, line) },
			"Hear on":  func(p api.Ports) (api.Ports, api.Errno) { return Hear(p, line, true) },
			"Hear off": func(p api.Ports) (api.Ports, api.Errno) { return Hear(p, line, false) },
		} {
			once, e := call(p)
			if e != api.OK {
				t.Fatalf("%s of %d: %d", what, line, e)
			}
			twice, e := call(once)
			came(t, what+", again", twice, e, once, api.OK)
		}
	}
}

func TestPending(t *testing.T) {
	for _, c := range []struct {
		lines, mask uint32
		want        int
	}{
		{0, 0, -1},
		{0, math.MaxUint32, -1},
		{math.MaxUint32, 0, -1},
		{pattern, ^pattern, -1},
		{^pattern, pattern, -1},
		{1, 2, -1},
		{1 << 31, 1 << 30, -1},
		{1 << 31, math.MaxUint32 >> 1, -1},
		{math.MaxUint32, math.MaxUint32, 0},
		{1, 1, 0},
		{0x81, 0x81, 0},
		{0xFFFFFFFE, math.MaxUint32, 1},
		{math.MaxUint32, 0xFFFFFFFE, 1},
		{0b0110, 0b1100, 2},
		{0b11011000, 0b11110000, 4},
		{0x00FF0000, 0xFF00FF00, -1},
		{0x00FF0000, 0xFF80FF00, 23},
		{0xC0000000, 0xC0000000, 30},
		{0xC0000001, 0xC0000002, 30},
		{1 << 31, 1 << 31, 31},
		{1 << 31, math.MaxUint32, 31},
		{math.MaxUint32, 1 << 31, 31},
	} {
		p := api.Ports{Lines: c.lines, Mask: c.mask, Clock: 5, Pool: lot(3, 1)}
		if got := Pending(p); got != c.want {
			t.Errorf("Pending of %08x, heard %08x: %d, not %d", c.lines, c.mask, got, c.want)
		}
		isAs(t, "handed in", p, api.Ports{Lines: c.lines, Mask: c.mask, Clock: 5, Pool: lot(3, 1)})
	}
}

// TestPendingEach: each line alone, and each two of them.
func TestPendingEach(t *testing.T) {
	for low := range 32 {
		for high := low; high < 32; high++ {
			both := with(with(0, low, true), high, true)
			if got := Pending(api.Ports{Lines: both, Mask: both}); got != low {
				t.Fatalf("Pending of %d and %d: %d", low, high, got)
			}
			if got := Pending(api.Ports{Lines: both, Mask: with(0, high, true)}); got != high {
				t.Fatalf("Pending of %d and %d, the second heard: %d", low, high, got)
			}
		}
	}
}

// TestPendingInOrder: lines that are done one behind the other come in the order of their numbers.
func TestPendingInOrder(t *testing.T) {
	p := api.Ports{}
	for i := range 32 {
		p, _ = Raise(p, i*13%32)
		p, _ = Hear(p, i*7%32, true)
	}
	for want := range 32 {
		if got := Pending(p); got != want {
			t.Fatalf("Pending: %d, not %d", got, want)
		}
		p, _ = Done(p, want)
	}
	if got := Pending(p); got != -1 {
		t.Errorf("Pending, when all is done: %d", got)
	}
	isAs(t, "when all is done", p, api.Ports{Mask: math.MaxUint32})
}

// P6.3

func TestTick(t *testing.T) {
	for _, p := range mayBe() {
		was := copied(p)
		for _, at := range []uint64{
			0, 1, 2, 4, 5, 6, 1<<32 - 1, 1 << 32, 1<<32 + 1, latest - 2, latest - 1, latest,
			latest + 1, latest + 2, latest + 5, latest * 2, 1 << 63, math.MaxUint64,
		} {
			want, err := copied(was), api.OK
			switch {
			case at > latest:
				err = api.ErrArg
			case at < was.Clock:
				err = api.ErrState
			default:
				want.Clock = at
			}
			got, e := Tick(p, at)
			came(t, "Tick", got, e, want, err)
			isAs(t, "handed in", p, was)
		}
	}
}

func TestTickSome(t *testing.T) {
	for _, c := range []struct {
		clock, at uint64
		e         api.Errno
	}{
		{0, 0, api.OK}, {0, 5, api.OK}, {0, latest, api.OK}, {0, latest + 1, api.ErrArg},
		{5, 0, api.ErrState}, {5, 4, api.ErrState}, {5, 5, api.OK}, {5, 6, api.OK}, {5, math.MaxUint64, api.ErrArg},
		{latest, latest - 1, api.ErrState}, {latest, latest, api.OK}, {latest, latest + 1, api.ErrArg},
	} {
		want := api.Ports{Clock: c.clock}
		if c.e == api.OK {
			want.Clock = c.at
		}
		got, e := Tick(api.Ports{Clock: c.clock}, c.at)
		came(t, "Tick", got, e, want, c.e)
	}
}

func TestFill(t *testing.T) {
	for _, p := range mayBe() {
		was := copied(p)
		room := 64 - len(p.Pool)
		for _, n := range []int{0, 1, 2, room - 1, room, room + 1, 63, 64, 65, 128, 256, 65536 - len(p.Pool), 65536} {
			if n < 0 {
				continue
			}
			b := lot(n, 77)
			want, err := copied(was), api.OK
			if n > room {
				err = api.ErrFull
			} else {
				want.Pool = append(want.Pool, b...)
			}
			got, e := Fill(p, b)
			came(t, "Fill", got, e, want, err)
			isAs(t, "handed in", p, was)
			if !bytes.Equal(b, lot(n, 77)) {
				t.Fatal("the bytes that are handed in were changed")
			}
		}
	}
}

func TestFillSome(t *testing.T) {
	for _, c := range []struct {
		pool, b, want []byte
		e             api.Errno
	}{
		{nil, nil, nil, api.OK},
		{nil, []byte{}, nil, api.OK},
		{[]byte{1, 2}, nil, []byte{1, 2}, api.OK},
		{nil, []byte{3}, []byte{3}, api.OK},
		{[]byte{1, 2}, []byte{3, 0, 3}, []byte{1, 2, 3, 0, 3}, api.OK},
		{lot(64, 1), nil, lot(64, 1), api.OK},
		{lot(64, 1), []byte{0}, lot(64, 1), api.ErrFull},
		{nil, lot(64, 2), lot(64, 2), api.OK},
		{nil, lot(65, 2), nil, api.ErrFull},
		{lot(63, 1), []byte{9}, append(lot(63, 1), 9), api.OK},
		{lot(63, 1), []byte{9, 9}, lot(63, 1), api.ErrFull},
		{[]byte{7}, lot(63, 2), append([]byte{7}, lot(63, 2)...), api.OK},
		{[]byte{7}, lot(64, 2), []byte{7}, api.ErrFull},
	} {
		got, e := Fill(api.Ports{Lines: 1, Mask: 2, Clock: 3, Pool: c.pool}, c.b)
		came(t, "Fill", got, e, api.Ports{Lines: 1, Mask: 2, Clock: 3, Pool: c.want}, c.e)
	}
}

func TestDraw(t *testing.T) {
	for _, p := range mayBe() {
		was := copied(p)
		size := len(p.Pool)
		for _, n := range []int{
			math.MinInt, math.MinInt + 1, -65, -64, -2, -1, 0, 1, 2, size / 2, size - 1, size, size + 1,
			63, 64, 65, 256, 1 << 32, math.MaxInt,
		} {
			want, drawn, err := copied(was), []byte(nil), api.OK
			switch {
			case n < 0:
				err = api.ErrArg
			case n > size:
				err = api.ErrNone
			default:
				drawn, want.Pool = was.Pool[:n], was.Pool[n:]
			}
			got, b, e := Draw(p, n)
			came(t, "Draw", got, e, want, err)
			if !bytes.Equal(b, drawn) {
				t.Fatalf("Draw(%d) of %d: %x, not %x", n, size, b, drawn)
			}
			isAs(t, "handed in", p, was)
		}
	}
}

func TestDrawSome(t *testing.T) {
	p := api.Ports{Lines: 1, Mask: 2, Clock: 3, Pool: []byte{10, 11, 12}}
	for _, c := range []struct {
		n           int
		drawn, left []byte
		e           api.Errno
	}{
		{-1, nil, []byte{10, 11, 12}, api.ErrArg},
		{0, nil, []byte{10, 11, 12}, api.OK},
		{1, []byte{10}, []byte{11, 12}, api.OK},
		{2, []byte{10, 11}, []byte{12}, api.OK},
		{3, []byte{10, 11, 12}, nil, api.OK},
		{4, nil, []byte{10, 11, 12}, api.ErrNone},
	} {
		got, b, e := Draw(p, c.n)
		came(t, "Draw", got, e, api.Ports{Lines: 1, Mask: 2, Clock: 3, Pool: c.left}, c.e)
		if !bytes.Equal(b, c.drawn) {
			t.Errorf("Draw(%d): %x, not %x", c.n, b, c.drawn)
		}
	}
}

// P6.4

// chance answers numbers that look like chance's, always the same.
func chance(x uint64) func(n int) int {
	return func(n int) int {
		x = x*6364136223846793005 + 1442695040888963407
		return int(x >> 33 % uint64(n))
	}
}

// kept is what is kept beside ports, call for call: which lines are raised and heard, and all that was filled and drawn.
type kept struct {
	raised, heard [32]bool
	clock         uint64
	filled, drawn []byte
}

// pending answers what Pending should.
func (k *kept) pending() int {
	for line := range 32 {
		if k.raised[line] && k.heard[line] {
			return line
		}
	}
	return -1
}

// ports answers those that there should be.
func (k *kept) ports() api.Ports {
	p := api.Ports{Clock: k.clock, Pool: k.filled[len(k.drawn):]}
	for line := range 32 {
		p.Lines = with(p.Lines, line, k.raised[line])
		p.Mask = with(p.Mask, line, k.heard[line])
	}
	return p
}

// onLines does a call to a line, of which some are not there.
func (k *kept) onLines(p api.Ports, next func(int) int) (api.Ports, api.Errno, api.Errno) {
	line, what := next(36)-2, next(4)
	if line < 0 || line > 31 {
		got, e := Raise(p, line)
		return got, e, api.ErrArg
	}
	switch what {
	case 0:
		k.raised[line] = false
		got, e := Done(p, line)
		return got, e, api.OK
	case 1:
		on := next(3) > 0
		k.heard[line] = on
		got, e := Hear(p, line, on)
		return got, e, api.OK
	}
	k.raised[line] = true
	got, e := Raise(p, line)
	return got, e, api.OK
}

// onClock does a Tick, forward, or back, or beyond the latest time.
func (k *kept) onClock(p api.Ports, next func(int) int) (api.Ports, api.Errno, api.Errno) {
	at := k.clock + uint64(next(7)) - 3
	if next(20) == 0 {
		at = latest + uint64(next(5)) - 3
	}
	got, e := Tick(p, at)
	switch {
	case at > latest:
		return got, e, api.ErrArg
	case at < k.clock:
		return got, e, api.ErrState
	}
	k.clock = at
	return got, e, api.OK
}

// onFill does a Fill, that has room, or not.
func (k *kept) onFill(p api.Ports, next func(int) int) (api.Ports, api.Errno, api.Errno) {
	b := lot(next(12)*next(7), next(256))
	got, e := Fill(p, b)
	if len(k.filled)-len(k.drawn)+len(b) > 64 {
		return got, e, api.ErrFull
	}
	k.filled = append(k.filled, b...)
	return got, e, api.OK
}

// onDraw does a Draw, of what is there, or of more.
func (k *kept) onDraw(p api.Ports, next func(int) int) (api.Ports, api.Errno, api.Errno) {
	n := next(24) - 1
	got, b, e := Draw(p, n)
	k.drawn = append(k.drawn, b...)
	switch {
	case n < 0:
		return got, e, api.ErrArg
	case n > len(p.Pool):
		return got, e, api.ErrNone
	}
	return got, e, api.OK
}

// TestManyCalls: calls one behind another, against what is kept beside.
func TestManyCalls(t *testing.T) {
	for seed := range 60 {
		next, k, p := chance(uint64(seed)), &kept{}, api.Ports{}
		for range 600 {
			was, e, err := p, api.OK, api.OK
			before := copied(p)
			calls := []func(api.Ports, func(int) int) (api.Ports, api.Errno, api.Errno){k.onLines, k.onClock, k.onFill, k.onDraw}
			p, e, err = calls[next(4)](p, next)
			came(t, "one of many calls", p, e, k.ports(), err)
			isAs(t, "handed in", was, before)
			if p.Clock < was.Clock {
				t.Fatalf("the clock went back, from %d to %d", was.Clock, p.Clock)
			}
			if !bytes.HasPrefix(k.filled, k.drawn) {
				t.Fatalf("what is drawn is not what was filled, at %d bytes", len(k.drawn))
			}
			if got := Pending(p); got != k.pending() {
				t.Fatalf("Pending: %d, not %d", got, k.pending())
			}
			if !Check(p) {
				t.Fatal("calls led to ports that do not Check")
			}
		}
		rest, b, e := Draw(p, len(p.Pool))
		if e != api.OK || len(rest.Pool) != 0 || !bytes.Equal(append(k.drawn, b...), k.filled) {
			t.Fatalf("what is left and what was drawn are not all that was filled: %d", e)
		}
		if len(k.filled) < 500 || len(k.drawn) < 400 {
			t.Fatalf("the chain tells little: %d bytes were filled, %d drawn", len(k.filled), len(k.drawn))
		}
	}
}

// TestClockStays: of a late clock every earlier time is refused, again and again.
func TestClockStays(t *testing.T) {
	p := api.Ports{}
	highest := uint64(0)
	next := chance(9)
	for range 5000 {
		at := uint64(next(1<<20)) << uint(next(23))
		got, e := Tick(p, at)
		if at > latest != (e == api.ErrArg) || at <= latest && at < highest != (e == api.ErrState) {
			t.Fatalf("Tick(%d) at %d: %d", at, highest, e)
		}
		if e == api.OK {
			highest = at
		}
		if got.Clock != highest {
			t.Fatalf("the clock says %d, and not %d", got.Clock, highest)
		}
		p = got
	}
	if highest < 1<<38 {
		t.Errorf("the clock came to %d alone", highest)
	}
}

// R1, R3: ports that no call made, and lists that nobody shares.

func TestNoPorts(t *testing.T) {
	p := api.Ports{}
	if !Check(p) || Pending(p) != -1 {
		t.Errorf("Check %v, Pending %d", Check(p), Pending(p))
	}
	got, e := Raise(p, 0)
	came(t, "Raise", got, e, api.Ports{Lines: 1}, api.OK)
	got, e = Hear(p, 31, true)
	came(t, "Hear", got, e, api.Ports{Mask: 1 << 31}, api.OK)
	got, e = Done(p, 0)
	came(t, "Done", got, e, api.Ports{}, api.OK)
	got, e = Tick(p, 0)
	came(t, "Tick", got, e, api.Ports{}, api.OK)
	got, e = Fill(p, nil)
	came(t, "Fill", got, e, api.Ports{}, api.OK)
	got, b, e := Draw(p, 0)
	came(t, "Draw", got, e, api.Ports{}, api.OK)
	if len(b) != 0 {
		t.Errorf("Draw(0): %x", b)
	}
	got, b, e = Draw(p, 1)
	came(t, "Draw of one", got, e, api.Ports{}, api.ErrNone)
	if len(b) != 0 {
		t.Errorf("Draw(1): %x", b)
	}
}

// wipe overwrites a list, and what room there is behind it.
func wipe(b []byte) {
	b = b[:cap(b)]
	for i := range b {
		b[i] = 0xEE
	}
}

func TestNothingShared(t *testing.T) {
	p, wrong, b := api.Ports{Lines: 6, Mask: 3, Clock: 9, Pool: lot(20, 1)}, api.Ports{Clock: 9, Pool: lot(65, 2)}, lot(40, 3)
	full := api.Ports{Clock: latest, Pool: lot(64, 4)}
	answers := func() []api.Ports {
		var l []api.Ports
		add := func(got api.Ports, e api.Errno) { l = append(l, got) }
		for _, p := range []api.Ports{p, wrong, full} {
			for _, line := range []int{-1, 1, 31, 32} {
				add(Raise(p, line))
				add(Hear(p, line, true))
				add(Hear(p, line, false))
				add(Done(p, line))
			}
			for _, at := range []uint64{0, 9, 10, latest, latest + 1} {
				add(Tick(p, at))
			}
			for _, n := range []int{0, 1, 40} {
				add(Fill(p, b[:n]))
			}
			for _, n := range []int{-1, 0, 1, 20, 21, 64} {
				got, drawn, e := Draw(p, n)
				add(got, e)
				l = append(l, api.Ports{Pool: drawn})
			}
		}
		return l
	}
	want := answers()
	for i, a := range answers() {
		wipe(a.Pool)
		isAs(t, "handed in", p, api.Ports{Lines: 6, Mask: 3, Clock: 9, Pool: lot(20, 1)})
		isAs(t, "handed in, wrong", wrong, api.Ports{Clock: 9, Pool: lot(65, 2)})
		isAs(t, "handed in, full", full, api.Ports{Clock: latest, Pool: lot(64, 4)})
		if !bytes.Equal(b, lot(40, 3)) {
			t.Fatalf("answer %d is what was handed in", i)
		}
		for j, again := range answers() {
			isAs(t, "told by another answer", again, want[j])
		}
	}
	got, drawn, _ := Draw(p, 7)
	wipe(drawn)
	if !bytes.Equal(got.Pool, lot(20, 1)[7:]) {
		t.Error("what is left is told by what was drawn")
	}
	got, drawn, _ = Draw(p, 7)
	wipe(got.Pool)
	if !bytes.Equal(drawn, lot(20, 1)[:7]) {
		t.Error("what was drawn is told by what is left")
	}
}

// TestRoom: what room stands behind a list's end is nobody's, and stays as it was.
func TestRoom(t *testing.T) {
	long, more := lot(200, 1), lot(200, 2)
	p := api.Ports{Pool: long[:10]}
	if !Check(p) || !Check(api.Ports{Pool: long[:64]}) {
		t.Error("room behind a pool's end is nobody's")
	}
	got, e := Fill(p, more[:54])
	came(t, "Fill", got, e, api.Ports{Pool: slices.Concat(long[:10], more[:54])}, api.OK)
	_, _, e = Draw(p, 11)
	if e != api.ErrNone {
		t.Errorf("Draw(11) of 10: %d", e)
	}
	got, b, e := Draw(p, 10)
	came(t, "Draw", got, e, api.Ports{}, api.OK)
	if !bytes.Equal(b, long[:10]) {
		t.Errorf("Draw(10): %x", b)
	}
	if !bytes.Equal(long, lot(200, 1)) || !bytes.Equal(more, lot(200, 2)) {
		t.Error("what stands behind a list's end was changed")
	}
}
