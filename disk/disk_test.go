package disk

import (
	"bytes"
	"math"
	"slices"
	"testing"

	"phonograph/api"
)

// sector answers 256 bytes, told by a number, each unlike its neighbours.
func sector(k int) []byte { return lot(256, k) }

// lot answers n bytes, told by a number.
func lot(n, k int) []byte {
	b := make([]byte, n)
	for i := range b {
		b[i] = byte(37*i + 101*k + k/256 + 1)
	}
	return b
}

// counted answers a disk of n sectors, each unlike the others, and of writes to the sectors of these numbers.
func counted(n int, writes ...int) api.Disk {
	var d api.Disk
	for at := range n {
		d.Sectors = append(d.Sectors, sector(at))
	}
	for i, at := range writes {
		d.Cache = append(d.Cache, api.Write{At: at, Data: sector(1000 + i)})
	}
	return d
}

// times answers the places of n writes, that go round through so many sectors.
func times(n, sectors int) []int {
	l := make([]int, n)
	for i := range l {
		l[i] = i * 7 % sectors
	}
	return l
}

// copied answers a disk that has nothing in common with what it was copied from.
func copied(d api.Disk) api.Disk {
	var c api.Disk
	for _, s := range d.Sectors {
		c.Sectors = append(c.Sectors, slices.Clone(s))
	}
	for _, w := range d.Cache {
		c.Cache = append(c.Cache, api.Write{At: w.At, Data: slices.Clone(w.Data)})
	}
	return c
}

// alike tells whether two disks are the same in all they have.
func alike(a, b api.Disk) bool {
	return slices.EqualFunc(a.Sectors, b.Sectors, bytes.Equal) &&
		slices.EqualFunc(a.Cache, b.Cache, func(v, w api.Write) bool { return v.At == w.At && bytes.Equal(v.Data, w.Data) })
}

// isAs fails, unless a disk is as it should be.
func isAs(t *testing.T, what string, got, want api.Disk) {
	t.Helper()
	if alike(got, want) {
		return
	}
	for at := range min(len(got.Sectors), len(want.Sectors)) {
		if !bytes.Equal(got.Sectors[at], want.Sectors[at]) {
			t.Errorf("%s: sector %d is %.8x.. (%d bytes), not %.8x.. (%d)", what, at, got.Sectors[at], len(got.Sectors[at]), want.Sectors[at], len(want.Sectors[at]))
			break
		}
	}
	t.Fatalf("%s: %d sectors and %d writes, not %d and %d, or others", what, len(got.Sectors), len(got.Cache), len(want.Sectors), len(want.Cache))
}

// left answers what a disk comes to when only these writes are done, one behind the other, in place.
func left(d api.Disk, keep []bool) api.Disk {
	c := copied(d)
	for i, w := range c.Cache {
		if i < len(keep) && keep[i] {
			copy(c.Sectors[w.At], w.Data)
		}
	}
	c.Cache = nil
	return c
}

// trues answers n times true.
func trues(n int) []bool { return slices.Repeat([]bool{true}, n) }

// mayBe are disks that Check.
func mayBe() []api.Disk {
	return []api.Disk{
		{}, {Sectors: [][]byte{}, Cache: []api.Write{}},
		counted(1), counted(2), counted(255), counted(256),
		counted(1, 0), counted(1, 0, 0, 0), counted(3, 2, 0, 2, 1, 2), counted(256, 255, 0, 255),
		counted(1, times(511, 1)...), counted(2, times(512, 2)...), counted(5, times(510, 5)...),
		counted(256, times(511, 256)...), counted(256, times(512, 256)...),
	}
}

// mayNotBe are disks that do not Check, each for one reason.
func mayNotBe() map[string]api.Disk {
	m := map[string]api.Disk{
		"257 sectors":              counted(257),
		"257 sectors, writes":      counted(257, 0, 1, 2),
		"258 sectors":              counted(258),
		"1000 sectors":             counted(1000),
		"513 writes":               counted(4, times(513, 4)...),
		"514 writes":               counted(256, times(514, 256)...),
		"2000 writes":              counted(1, times(2000, 1)...),
		"a write without sectors":  counted(0, 0),
		"a write below 0":          counted(3, -1),
		"a write far below 0":      counted(3, math.MinInt),
		"a write behind the last":  counted(3, 3),
		"a write behind 256":       counted(256, 256),
		"a write far behind":       counted(3, math.MaxInt),
		"a write farther":          counted(3, 1<<32),
		"the last write behind":    counted(3, 0, 1, 2, 3),
		"the first write below":    counted(3, -1, 0, 1),
		"a write below in between": counted(3, 0, -3, 1),
	}
	sizes := map[string][]byte{"none": nil, "no": {}, "1": lot(1, 1), "255": lot(255, 1), "257": lot(257, 1), "512": lot(512, 1)}
	for size, b := range sizes {
		for name, at := range map[string]int{"first": 0, "middle": 2, "last": 4} {
			d, w := counted(5, 0, 1), counted(5, 4, 3, 2, 1, 0)
			d.Sectors[at] = b
			w.Cache[at].Data = b
			m["the "+name+" sector of "+size+" bytes"] = d
			m["the "+name+" write of "+size+" bytes"] = w
		}
	}
	return m
}

// edges are numbers of sectors around a disk's end, and far from it.
func edges(n int) []int {
	return []int{
		math.MinInt, math.MinInt + 1, -257, -256, -2, -1, 0, 1, n / 2, n - 2, n - 1, n, n + 1,
		254, 255, 256, 257, 511, 512, 1 << 32, math.MaxInt - 1, math.MaxInt,
	}
}

// P5.1

func TestCheck(t *testing.T) {
	for _, d := range mayBe() {
		if !Check(d) {
			t.Errorf("%d sectors and %d writes may be", len(d.Sectors), len(d.Cache))
		}
	}
	for name, d := range mayNotBe() {
		if Check(d) {
			t.Errorf("it may not be: %s", name)
		}
	}
}

// TestCheckEach: each sector's and each write's bytes are counted, and each write's sector is looked for.
func TestCheckEach(t *testing.T) {
	for i := range 256 {
		d := counted(256)
		d.Sectors[i] = d.Sectors[i][:255]
		if Check(d) {
			t.Fatalf("sector %d has 255 bytes", i)
		}
	}
	for i := range 512 {
		d := counted(4, times(512, 4)...)
		d.Cache[i].Data = append(d.Cache[i].Data, 0)
		if Check(d) {
			t.Fatalf("write %d has 257 bytes", i)
		}
		d = counted(4, times(512, 4)...)
		d.Cache[i].At = 4
		if Check(d) {
			t.Fatalf("write %d is of sector 4 of 4", i)
		}
	}
}

func TestNew(t *testing.T) {
	for _, n := range []int{0, 1, 2, 98, 255, 256} {
		d, e := New(n)
		if e != api.OK || len(d.Sectors) != n || len(d.Cache) != 0 || !Check(d) {
			t.Fatalf("New(%d): %d sectors, %d writes, %d", n, len(d.Sectors), len(d.Cache), e)
		}
		for at, s := range d.Sectors {
			if !bytes.Equal(s, make([]byte, 256)) {
				t.Errorf("New(%d): sector %d is not 256 zeros", n, at)
			}
			if b, e := Read(d, at); e != api.OK || !bytes.Equal(b, make([]byte, 256)) {
				t.Errorf("New(%d): sector %d is read as %.8x.., %d", n, at, b, e)
			}
		}
	}
	for _, n := range []int{-1, -2, -256, math.MinInt, 257, 258, 512, 1 << 20, 1 << 40, math.MaxInt} {
		if d, e := New(n); e != api.ErrArg || len(d.Sectors) != 0 || len(d.Cache) != 0 {
			t.Errorf("New(%d): %d sectors, %d writes, %d", n, len(d.Sectors), len(d.Cache), e)
		}
	}
}

// TestForm: of a disk that does not Check ErrForm comes first, whatever else is wrong, and it stays as it was.
func TestForm(t *testing.T) {
	for name, d := range mayNotBe() {
		was := copied(d)
		refused := func(call string, got api.Disk, e api.Errno) {
			t.Helper()
			if e != api.ErrForm {
				t.Fatalf("%s of %s: %d", call, name, e)
			}
			isAs(t, call+" of "+name, got, was)
			isAs(t, call+" of "+name+", handed in", d, was)
		}
		for _, at := range []int{math.MinInt, -1, 0, 1, 4, 256, 257, math.MaxInt} {
			if b, e := Read(d, at); e != api.ErrForm || len(b) != 0 {
				t.Fatalf("Read(%d) of %s: %d bytes, %d", at, name, len(b), e)
			}
			for _, b := range [][]byte{nil, {}, sector(1), lot(255, 1), lot(257, 1)} {
				got, e := Write(d, at, b)
				refused("Write", got, e)
			}
			for _, place := range []int{math.MinInt, -1, 0, 255, 256, math.MaxInt} {
				got, e := Tamper(d, at, place, 255)
				refused("Tamper", got, e)
			}
		}
		got, e := Flush(d)
		refused("Flush", got, e)
		for _, keep := range [][]bool{nil, {}, {true}, {false}, trues(512), trues(513)} {
			got, e = Crash(d, keep)
			refused("Crash", got, e)
		}
	}
}

// P5.2

func TestRead(t *testing.T) {
	for _, d := range mayBe() {
		was, want := copied(d), left(d, trues(len(d.Cache)))
		for _, at := range edges(len(d.Sectors)) {
			b, e := Read(d, at)
			if at < 0 || at >= len(d.Sectors) {
				if e != api.ErrSector || len(b) != 0 {
					t.Fatalf("Read(%d) of %d sectors: %d bytes, %d", at, len(d.Sectors), len(b), e)
				}
			} else if e != api.OK || !bytes.Equal(b, want.Sectors[at]) {
				t.Fatalf("Read(%d) of %d sectors, %d writes: %.8x.., %d, not %.8x..", at, len(d.Sectors), len(d.Cache), b, e, want.Sectors[at])
			}
		}
		for at := range d.Sectors {
			if b, e := Read(d, at); e != api.OK || !bytes.Equal(b, want.Sectors[at]) {
				t.Fatalf("Read(%d) of %d sectors, %d writes: %.8x.., %d", at, len(d.Sectors), len(d.Cache), b, e)
			}
		}
		isAs(t, "handed in", d, was)
	}
}

// TestReadLast: of several writes to a sector the last one is read, and nothing but what is written there.
func TestReadLast(t *testing.T) {
	d := counted(3, 1, 0, 1, 0, 1)
	for at, want := range [][]byte{d.Cache[3].Data, d.Cache[4].Data, d.Sectors[2]} {
		if b, e := Read(d, at); e != api.OK || !bytes.Equal(b, want) {
			t.Errorf("Read(%d): %.8x.., %d, not %.8x..", at, b, e, want)
		}
	}
	d.Cache[4].Data = make([]byte, 256)
	if b, e := Read(d, 1); e != api.OK || !bytes.Equal(b, make([]byte, 256)) {
		t.Errorf("zeros that are written are read as %.8x.., %d", b, e)
	}
}

func TestWrite(t *testing.T) {
	for _, d := range mayBe() {
		was := copied(d)
		n, full := len(d.Sectors), len(d.Cache) == 512
		for _, at := range edges(n) {
			for _, size := range []int{0, 1, 255, 256, 257, 512} {
				b := lot(size, 5000)
				got, e := Write(d, at, b)
				want, err := was, api.OK
				switch {
				case at < 0 || at >= n:
					err = api.ErrSector
				case size != 256:
					err = api.ErrArg
				case full:
					err = api.ErrFull
				default:
					want = api.Disk{Sectors: was.Sectors, Cache: append(slices.Clip(was.Cache), api.Write{At: at, Data: b})}
				}
				if e != err {
					t.Fatalf("Write(%d) of %d bytes, %d sectors, %d writes: %d, not %d", at, size, n, len(d.Cache), e, err)
				}
				isAs(t, "Write", got, want)
				isAs(t, "handed in", d, was)
			}
		}
	}
}

// TestWriteWhatIsWrongFirst: the chapter's order, where several errors apply.
func TestWriteWhatIsWrongFirst(t *testing.T) {
	full := counted(2, times(512, 2)...)
	for _, c := range []struct {
		at, size int
		want     api.Errno
	}{
		{2, 255, api.ErrSector}, {-1, 0, api.ErrSector}, {2, 256, api.ErrSector}, {math.MaxInt, 257, api.ErrSector},
		{1, 255, api.ErrArg}, {0, 0, api.ErrArg}, {1, 257, api.ErrArg},
		{0, 256, api.ErrFull}, {1, 256, api.ErrFull},
	} {
		got, e := Write(full, c.at, lot(c.size, 1))
		if e != c.want {
			t.Errorf("Write(%d) of %d bytes to a full one: %d, not %d", c.at, c.size, e, c.want)
		}
		isAs(t, "Write, refused", got, full)
	}
}

// TestWriteTillFull: 512 writes have room, the next one has not until there was a Flush.
func TestWriteTillFull(t *testing.T) {
	d, _ := New(3)
	for i := range 512 {
		var e api.Errno
		if d, e = Write(d, i%2, sector(i)); e != api.OK || len(d.Cache) != i+1 {
			t.Fatalf("write %d: %d writes, %d", i, len(d.Cache), e)
		}
		if b, e := Read(d, i%2); e != api.OK || !bytes.Equal(b, sector(i)) {
			t.Fatalf("write %d is read as %.8x.., %d", i, b, e)
		}
		if d.Cache[i].At != i%2 || !bytes.Equal(d.Cache[i].Data, sector(i)) || !bytes.Equal(d.Sectors[i%2], make([]byte, 256)) {
			t.Fatalf("write %d does not stand behind the writes", i)
		}
	}
	got, e := Write(d, 2, sector(512))
	if e != api.ErrFull {
		t.Errorf("write 513: %d", e)
	}
	isAs(t, "write 513", got, d)
	d, e = Flush(d)
	if e != api.OK || len(d.Cache) != 0 {
		t.Fatalf("Flush: %d writes, %d", len(d.Cache), e)
	}
	if d, e = Write(d, 2, sector(512)); e != api.OK || len(d.Cache) != 1 {
		t.Errorf("a write behind the Flush: %d writes, %d", len(d.Cache), e)
	}
	for at, k := range []int{510, 511, 512} {
		if b, e := Read(d, at); e != api.OK || !bytes.Equal(b, sector(k)) {
			t.Errorf("Read(%d): %.8x.., %d", at, b, e)
		}
	}
}

func TestFlush(t *testing.T) {
	for _, d := range mayBe() {
		was := copied(d)
		got, e := Flush(d)
		if e != api.OK || len(got.Cache) != 0 || !Check(got) {
			t.Fatalf("Flush of %d sectors, %d writes: %d, %d writes", len(d.Sectors), len(d.Cache), e, len(got.Cache))
		}
		isAs(t, "Flush", got, left(was, trues(512)))
		isAs(t, "handed in", d, was)
		again, e := Flush(got)
		if e != api.OK {
			t.Errorf("Flush, again: %d", e)
		}
		isAs(t, "Flush, again", again, got)
		for at := range d.Sectors {
			before, _ := Read(d, at)
			behind, _ := Read(got, at)
			if !bytes.Equal(before, behind) {
				t.Fatalf("sector %d is read unlike, when it is flushed", at)
			}
		}
	}
	d := counted(3, 1, 0, 1, 0, 1)
	got, _ := Flush(d)
	isAs(t, "in order", got, api.Disk{Sectors: [][]byte{d.Cache[3].Data, d.Cache[4].Data, d.Sectors[2]}})
}

// P5.3

// TestExample: the chapter's.
func TestExample(t *testing.T) {
	d, _ := New(1)
	d, _ = Write(d, 0, sector(7))
	for _, c := range []struct {
		keep []bool
		want []byte
	}{{nil, make([]byte, 256)}, {[]bool{false}, make([]byte, 256)}, {[]bool{true}, sector(7)}} {
		got, e := Crash(d, c.keep)
		if b, f := Read(got, 0); e != api.OK || f != api.OK || !bytes.Equal(b, c.want) {
			t.Errorf("Crash with %v: %.8x.., %d, %d", c.keep, b, e, f)
		}
	}
}

// keeps are lists that are empty, shorter than n, just as long, and longer.
func keeps(n int) [][]bool {
	l := [][]bool{nil, {}, {true}, {false}, {false, true}, trues(n), make([]bool, n), trues(n + 1), make([]bool, n+3), trues(1000)}
	if n > 0 {
		l = append(l, trues(n-1), make([]bool, n-1), append(make([]bool, n-1), true), append(trues(n-1), false), append(make([]bool, n), true))
	}
	for _, size := range []int{n / 2, n, n + 5} {
		even, third := make([]bool, size), make([]bool, size)
		for i := range size {
			even[i], third[i] = i%2 == 0, i%3 == 2
		}
		l = append(l, even, third)
	}
	return l
}

func TestCrash(t *testing.T) {
	for _, d := range mayBe() {
		was := copied(d)
		for _, keep := range keeps(len(d.Cache)) {
			kept := slices.Clone(keep)
			got, e := Crash(d, keep)
			if e != api.OK || len(got.Cache) != 0 || !Check(got) {
				t.Fatalf("Crash of %d sectors, %d writes: %d, %d writes", len(d.Sectors), len(d.Cache), e, len(got.Cache))
			}
			isAs(t, "Crash", got, left(was, keep))
			isAs(t, "handed in", d, was)
			if !slices.Equal(keep, kept) {
				t.Fatal("keep was changed")
			}
			only := copied(d)
			only.Cache = nil
			for i, w := range was.Cache {
				if i < len(keep) && keep[i] {
					only.Cache = append(only.Cache, w)
				}
			}
			flushed, e := Flush(only)
			if e != api.OK {
				t.Fatalf("Flush of the kept ones: %d", e)
			}
			isAs(t, "Flush of the kept ones", got, flushed)
		}
	}
}

// TestCrashLast: of several writes to a sector the last one that is kept counts, not the last one.
func TestCrashLast(t *testing.T) {
	d := counted(2, 0, 0, 1, 0)
	for bits := range 16 {
		keep := []bool{bits&1 != 0, bits&2 != 0, bits&4 != 0, bits&8 != 0}
		want := [][]byte{d.Sectors[0], d.Sectors[1]}
		switch {
		case keep[3]:
			want[0] = d.Cache[3].Data
		case keep[1]:
			want[0] = d.Cache[1].Data
		case keep[0]:
			want[0] = d.Cache[0].Data
		}
		if keep[2] {
			want[1] = d.Cache[2].Data
		}
		got, e := Crash(d, keep)
		if e != api.OK {
			t.Errorf("%v: %d", keep, e)
		}
		isAs(t, "Crash", got, api.Disk{Sectors: want})
	}
	behind := []bool{true, false, false, true}
	got, e := Crash(d, behind[:1])
	if e != api.OK {
		t.Errorf("room behind keep's end: %d", e)
	}
	isAs(t, "room behind keep's end", got, api.Disk{Sectors: [][]byte{d.Cache[0].Data, d.Sectors[1]}})
}

func TestTamper(t *testing.T) {
	for _, d := range mayBe() {
		was := copied(d)
		n := len(d.Sectors)
		for _, at := range edges(n) {
			for _, place := range []int{math.MinInt, -256, -1, 0, 1, 128, 254, 255, 256, 257, 512, math.MaxInt} {
				for _, by := range []byte{0, 1, 128, 255} {
					got, e := Tamper(d, at, place, by)
					want, err := was, api.OK
					switch {
					case at < 0 || at >= n:
						err = api.ErrSector
					case place < 0 || place > 255:
						err = api.ErrArg
					default:
						want = api.Disk{Sectors: slices.Clone(was.Sectors), Cache: was.Cache}
						want.Sectors[at] = slices.Clone(was.Sectors[at])
						want.Sectors[at][place] ^= by
					}
					if e != err {
						t.Fatalf("Tamper(%d, %d) of %d sectors: %d, not %d", at, place, n, e, err)
					}
					if !alike(got, want) || !alike(d, was) {
						t.Fatalf("Tamper(%d, %d, %d) of %d sectors, %d writes", at, place, by, n, len(d.Cache))
					}
				}
			}
		}
	}
}

// TestTamperBehindWrites: a write stands ahead of what was tampered with, until it is lost.
func TestTamperBehindWrites(t *testing.T) {
	d := counted(2, 1, 1)
	bad := slices.Clone(d.Sectors[1])
	bad[0] ^= 0x81
	bad[255] ^= 0xFF
	got, e := Tamper(d, 1, 0, 0x81)
	got, f := Tamper(got, 1, 255, 0xFF)
	if e != api.OK || f != api.OK {
		t.Fatalf("Tamper: %d, %d", e, f)
	}
	isAs(t, "Tamper", got, api.Disk{Sectors: [][]byte{d.Sectors[0], bad}, Cache: d.Cache})
	if b, e := Read(got, 1); e != api.OK || !bytes.Equal(b, d.Cache[1].Data) {
		t.Errorf("Read: %.8x.., %d", b, e)
	}
	flushed, _ := Flush(got)
	isAs(t, "Flush", flushed, api.Disk{Sectors: [][]byte{d.Sectors[0], d.Cache[1].Data}})
	lost, _ := Crash(got, nil)
	isAs(t, "Crash", lost, api.Disk{Sectors: [][]byte{d.Sectors[0], bad}})
	for _, place := range []int{-1, 256} {
		got, e = Tamper(d, 1, place, 1)
		if e != api.ErrArg {
			t.Errorf("Tamper at %d: %d", place, e)
		}
		isAs(t, "Tamper, refused", got, d)
	}
	for _, at := range []int{-1, 2} {
		if _, e = Tamper(d, at, 256, 1); e != api.ErrSector {
			t.Errorf("Tamper of sector %d at 256: %d", at, e)
		}
	}
	twice, _ := Tamper(d, 0, 9, 77)
	twice, _ = Tamper(twice, 0, 9, 77)
	isAs(t, "Tamper twice", twice, d)
}

// P5.4

// chance answers numbers that look like chance's, always the same.
func chance(x uint64) func(n int) int {
	return func(n int) int {
		x = x*6364136223846793005 + 1442695040888963407
		return int(x >> 33 % uint64(n))
	}
}

// TestManyCalls: calls one behind another, against sectors and lists of writes that are kept beside.
func TestManyCalls(t *testing.T) {
	for seed := range 40 {
		next := chance(uint64(seed))
		n := next(6) + 1
		d, _ := New(n)
		safe := make([][]byte, n)
		since := make([][][]byte, n)
		written := 0
		for at := range safe {
			safe[at] = make([]byte, 256)
		}
		for step := range 120 {
			switch next(8) {
			case 0:
				d, _ = Flush(d)
				for at := range safe {
					if k := len(since[at]); k > 0 {
						safe[at] = since[at][k-1]
					}
				}
				since, written = make([][][]byte, n), 0
			case 1:
				keep := make([]bool, next(written+3))
				for i := range keep {
					keep[i] = next(2) == 0
				}
				d, _ = Crash(d, keep)
				checkLeft(t, d, safe, since)
				for at := range safe {
					safe[at] = d.Sectors[at]
				}
				since, written = make([][][]byte, n), 0
			default:
				at, b := next(n), sector(step+1)
				d, _ = Write(d, at, b)
				since[at] = append(since[at], b)
				written++
			}
			checkRead(t, d, safe, since)
		}
	}
}

// checkLeft fails, unless each sector is, behind a crash, as it was, or as one of its writes says, whole.
func checkLeft(t *testing.T, d api.Disk, safe [][]byte, since [][][]byte) {
	t.Helper()
	if len(d.Sectors) != len(safe) || len(d.Cache) != 0 {
		t.Fatalf("%d sectors of %d, %d writes", len(d.Sectors), len(safe), len(d.Cache))
	}
	for at, was := range safe {
		b, e := Read(d, at)
		whole := bytes.Equal(b, was) || slices.ContainsFunc(since[at], func(w []byte) bool { return bytes.Equal(b, w) })
		if e != api.OK || !whole {
			t.Fatalf("sector %d is %.8x.., %d: neither what it was nor one of its %d writes", at, b, e, len(since[at]))
		}
	}
}

// checkRead fails, unless each sector is read as its last write says, or as what is safe.
func checkRead(t *testing.T, d api.Disk, safe [][]byte, since [][][]byte) {
	t.Helper()
	for at, want := range safe {
		if k := len(since[at]); k > 0 {
			want = since[at][k-1]
		}
		if b, e := Read(d, at); e != api.OK || !bytes.Equal(b, want) {
			t.Fatalf("sector %d is %.8x.., %d, not %.8x..", at, b, e, want)
		}
	}
}

// TestFlushedStays: whichever writes are there behind a crash, a sector that was flushed, and not written since, is there.
func TestFlushedStays(t *testing.T) {
	d := counted(4, 0, 1, 2)
	d, _ = Flush(d)
	safe := copied(d)
	writes := []int{1, 3, 1, 3}
	for i, at := range writes {
		d, _ = Write(d, at, sector(2000+i))
	}
	for bits := range 16 {
		keep := make([]bool, 4)
		for i := range keep {
			keep[i] = bits>>i&1 == 1
		}
		got, e := Crash(d, keep)
		if e != api.OK {
			t.Fatalf("%v: %d", keep, e)
		}
		for _, at := range []int{0, 2} {
			if b, e := Read(got, at); e != api.OK || !bytes.Equal(b, safe.Sectors[at]) {
				t.Errorf("%v: sector %d was flushed, and is %.8x.., %d", keep, at, b, e)
			}
		}
		since := [][][]byte{nil, {sector(2000), sector(2002)}, nil, {sector(2001), sector(2003)}}
		checkLeft(t, got, safe.Sectors, since)
		again, e := Crash(got, trues(512))
		if e != api.OK {
			t.Errorf("the power goes again: %d", e)
		}
		isAs(t, "the power goes again", again, got)
	}
}

// R1, R3: a disk that no call made, and lists that nobody shares.

func TestNoDisk(t *testing.T) {
	var d api.Disk
	if b, e := Read(d, 0); e != api.ErrSector || len(b) != 0 {
		t.Errorf("Read: %d bytes, %d", len(b), e)
	}
	for name, call := range map[string]func() (api.Disk, api.Errno){
		"Write":  func() (api.Disk, api.Errno) { return Write(d, 0, sector(1)) },
		"Tamper": func() (api.Disk, api.Errno) { return Tamper(d, 0, 0, 1) },
	} {
		if got, e := call(); e != api.ErrSector || len(got.Sectors) != 0 || len(got.Cache) != 0 {
			t.Errorf("%s: %d sectors, %d writes, %d", name, len(got.Sectors), len(got.Cache), e)
		}
	}
	for name, call := range map[string]func() (api.Disk, api.Errno){
		"Flush":          func() (api.Disk, api.Errno) { return Flush(d) },
		"Crash":          func() (api.Disk, api.Errno) { return Crash(d, nil) },
		"Crash with one": func() (api.Disk, api.Errno) { return Crash(d, []bool{true}) },
	} {
		if got, e := call(); e != api.OK || len(got.Sectors) != 0 || len(got.Cache) != 0 {
			t.Errorf("%s: %d sectors, %d writes, %d", name, len(got.Sectors), len(got.Cache), e)
		}
	}
}

// wipe overwrites all that a disk holds, and what room there is behind its lists.
func wipe(d api.Disk) {
	for i := range d.Sectors {
		s := d.Sectors[i]
		s = s[:cap(s)]
		for j := range s {
			s[j] = 0xEE
		}
	}
	for i := range d.Cache {
		b := d.Cache[i].Data
		b = b[:cap(b)]
		for j := range b {
			b[j] = 0xEE
		}
		d.Cache[i].At = -9
	}
	clear(d.Sectors[:cap(d.Sectors)])
	clear(d.Cache[:cap(d.Cache)])
}

func TestNothingShared(t *testing.T) {
	d, b, keep := counted(3, 1, 2, 1), sector(77), []bool{true, false, true}
	full := counted(2, times(512, 2)...)
	wrong := counted(2, 0, 5)
	answers := func() []api.Disk {
		var l []api.Disk
		add := func(got api.Disk, e api.Errno) { l = append(l, got) }
		add(New(2))
		add(Write(d, 0, b))
		add(Write(d, 3, b))
		add(Write(d, 0, b[:255]))
		add(Write(full, 0, b))
		add(Write(wrong, 0, b))
		add(Flush(d))
		add(Flush(wrong))
		add(Crash(d, nil))
		add(Crash(d, keep))
		add(Crash(wrong, keep))
		add(Tamper(d, 1, 1, 1))
		add(Tamper(d, 3, 1, 1))
		add(Tamper(d, 1, 256, 1))
		add(Tamper(wrong, 1, 1, 1))
		for at := range 3 {
			r, _ := Read(d, at)
			l = append(l, api.Disk{Sectors: [][]byte{r}})
		}
		return l
	}
	want := answers()
	for i, a := range answers() {
		wipe(a)
		isAs(t, "handed in", d, counted(3, 1, 2, 1))
		isAs(t, "handed in, full", full, counted(2, times(512, 2)...))
		isAs(t, "handed in, wrong", wrong, counted(2, 0, 5))
		if !bytes.Equal(b, sector(77)) || !slices.Equal(keep, []bool{true, false, true}) {
			t.Fatalf("answer %d is what was handed in", i)
		}
		for j, again := range answers() {
			if !alike(again, want[j]) {
				t.Fatalf("answer %d is told by answer %d", j, i)
			}
		}
	}
}

// TestOneListOfEach: lists of one answer are not each other's, though those that were handed in are.
func TestOneListOfEach(t *testing.T) {
	one := sector(1)
	d := api.Disk{Sectors: [][]byte{one, one, one}, Cache: []api.Write{{At: 0, Data: one}, {At: 1, Data: one}}}
	answers := map[string]api.Disk{}
	answers["New"], _ = New(3)
	answers["Write"], _ = Write(d, 2, one)
	answers["Write, refused"], _ = Write(d, 3, one)
	answers["Flush"], _ = Flush(d)
	answers["Crash"], _ = Crash(d, []bool{false, true})
	answers["Tamper"], _ = Tamper(d, 0, 0, 5)
	for name, a := range answers {
		for i := range a.Sectors {
			was := copied(a)
			s := a.Sectors[i]
			s = s[:cap(s)]
			for j := range s {
				s[j] ^= 0xFF
			}
			_ = append(a.Sectors[i], 1, 2, 3)
			was.Sectors[i] = slices.Clone(a.Sectors[i])
			isAs(t, name+": one sector is changed", a, was)
		}
		for i := range a.Cache {
			was := copied(a)
			s := a.Cache[i].Data
			s = s[:cap(s)]
			for j := range s {
				s[j] ^= 0xFF
			}
			was.Cache[i].Data = slices.Clone(a.Cache[i].Data)
			isAs(t, name+": one write is changed", a, was)
		}
	}
	if !bytes.Equal(one, sector(1)) {
		t.Error("what was handed in was changed")
	}
	tampered, _ := Tamper(d, 0, 0, 5)
	if bytes.Equal(tampered.Sectors[0], one) || !bytes.Equal(tampered.Sectors[1], one) || !bytes.Equal(tampered.Cache[0].Data, one) {
		t.Error("Tamper changes one sector alone")
	}
}

// TestRoom: what room stands behind a list's end is nobody's, and stays as it was.
func TestRoom(t *testing.T) {
	long := counted(4, 0, 1, 2, 3)
	d := api.Disk{Sectors: long.Sectors[:3], Cache: long.Cache[:2]}
	b := lot(300, 5)
	got, e := Write(d, 0, b[:256])
	if e != api.OK {
		t.Errorf("Write: %d", e)
	}
	isAs(t, "Write", got, api.Disk{Sectors: d.Sectors, Cache: append(slices.Clip(d.Cache), api.Write{At: 0, Data: b[:256]})})
	if _, e := Read(d, 3); e != api.ErrSector {
		t.Errorf("Read(3): %d", e)
	}
	if r, e := Read(d, 2); e != api.OK || !bytes.Equal(r, sector(2)) {
		t.Errorf("Read(2): %.8x.., %d", r, e)
	}
	d.Sectors[0] = lot(300, 9)[:256]
	d.Sectors[1] = lot(300, 9)[:256:256]
	if !Check(d) {
		t.Error("room behind a sector's end is nobody's")
	}
	_, _ = Flush(d)
	isAs(t, "the long one", api.Disk{Sectors: long.Sectors[2:], Cache: long.Cache}, api.Disk{Sectors: counted(4).Sectors[2:], Cache: counted(4, 0, 1, 2, 3).Cache})
}
