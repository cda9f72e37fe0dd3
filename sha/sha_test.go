package sha

import (
	"bytes"
	"crypto/sha256"
	"encoding/hex"
	"math"
	"math/big"
	"strings"
	"testing"

	"phonograph/api"
)

// counted answers n bytes from c on, each by step more than the one ahead.
func counted(n int, c, step byte) []byte {
	b := make([]byte, n)
	for i := range b {
		b[i] = c
		c += step
	}
	return b
}

// texts are of all lengths up to three blocks, and of some longer ones.
func texts() [][]byte {
	var l [][]byte
	for n := range 3*64 + 2 {
		l = append(l, counted(n, 0, 0), counted(n, 255, 0), counted(n, 9, 37))
	}
	for _, n := range []int{255, 256, 257, 511, 512, 1000, 1 << 12, 1<<16 - 9, 1 << 16} {
		l = append(l, counted(n, 1, 91))
	}
	return l
}

// primes answers the first n of them.
func primes(n int) []int64 {
	var l []int64
next:
	for p := int64(2); len(l) < n; p++ {
		for _, q := range l {
			if p%q == 0 {
				continue next
			}
		}
		l = append(l, p)
	}
	return l
}

// fraction answers the first 32 bits behind the point of the root of a number: the greatest x whose power is not above p times 2^(32*power), without what is ahead of the point.
func fraction(p, power int64) uint32 {
	top := new(big.Int).Lsh(big.NewInt(p), uint(32*power))
	x := new(big.Int)
	for bit := 40; bit >= 0; bit-- {
		y := new(big.Int).SetBit(x, bit, 1)
		if new(big.Int).Exp(y, big.NewInt(power), nil).Cmp(top) <= 0 {
			x = y
		}
	}
	return uint32(x.Uint64())
}

// begin is what a digest goes on from.
func begin() [8]uint32 {
	var h [8]uint32
	for i, p := range primes(8) {
		h[i] = fraction(p, 2)
	}
	return h
}

// turnRight is rot of the chapter, bit by bit.
func turnRight(x uint32, n int) uint32 {
	y := uint32(0)
	for i := range 32 {
		y |= x >> i & 1 << ((i + 32 - n) % 32)
	}
	return y
}

// blocks are some of 64 bytes.
func blocks() [][]byte {
	l := [][]byte{counted(64, 0, 0), counted(64, 255, 0), counted(64, 0, 1), counted(64, 200, 53), append([]byte("abc\x80"), counted(60, 0, 0)...)}
	for i := range 64 {
		b := counted(64, 0, 0)
		b[i] = byte(1 << (i % 8))
		l = append(l, b)
	}
	return l
}

// wrong are blocks of other lengths.
func wrong() [][]byte {
	return [][]byte{nil, {}, {1}, counted(4, 1, 1), counted(63, 1, 1), counted(65, 1, 1), counted(128, 1, 1)}
}

// P3.1

func TestWords(t *testing.T) {
	for _, b := range blocks() {
		w := Words(b)
		for i := range 64 {
			want := uint32(0)
			if i < 16 {
				want = uint32(b[4*i])<<24 + uint32(b[4*i+1])<<16 + uint32(b[4*i+2])<<8 + uint32(b[4*i+3])
			} else {
				x, y := w[i-15], w[i-2]
				s0 := turnRight(x, 7) ^ turnRight(x, 18) ^ x>>3
				s1 := turnRight(y, 17) ^ turnRight(y, 19) ^ y>>10
				want = s1 + w[i-7] + s0 + w[i-16]
			}
			if w[i] != want {
				t.Errorf("word %d of %x is %x, not %x", i, b, w[i], want)
			}
		}
	}
}

// TestWordsKnown: some by hand: the one block of abc.
func TestWordsKnown(t *testing.T) {
	b := append([]byte("abc\x80"), counted(60, 0, 0)...)
	b[63] = 24
	w := Words(b)
	for _, c := range []struct {
		i    int
		want uint32
	}{{0, 0x61626380}, {1, 0}, {15, 24}, {16, 0x61626380}, {17, 0x000F0000}, {18, 0x7DA86405}, {19, 0x600003C6}, {63, 0x12B1EDEB}} {
		if w[c.i] != c.want {
			t.Errorf("word %d is %x, not %x", c.i, w[c.i], c.want)
		}
	}
}

func TestWordsWrong(t *testing.T) {
	for _, b := range wrong() {
		if Words(b) != [64]uint32{} {
			t.Errorf("of %d bytes: %x", len(b), Words(b))
		}
	}
}

// P3.2

// turned goes through the rounds as the chapter has them.
func turned(v [8]uint32, block []byte) [8]uint32 {
	a, b, c, d, e, f, g, h := v[0], v[1], v[2], v[3], v[4], v[5], v[6], v[7]
	w := Words(block)
	for i, p := range primes(64) {
		t := h + (turnRight(e, 6) ^ turnRight(e, 11) ^ turnRight(e, 25)) + ((e & f) ^ (^e & g)) + fraction(p, 3) + w[i]
		u := (turnRight(a, 2) ^ turnRight(a, 13) ^ turnRight(a, 22)) + ((a & b) ^ (a & c) ^ (b & c))
		h, g, f, e, d, c, b, a = g, f, e, d+t, c, b, a, t+u
	}
	for i, x := range [8]uint32{a, b, c, d, e, f, g, h} {
		v[i] += x
	}
	return v
}

// starts are some that a block may be turned into.
func starts() [][8]uint32 {
	m := uint32(math.MaxUint32)
	return [][8]uint32{{}, begin(), {m, m, m, m, m, m, m, m}, {1, 2, 3, 4, 5, 6, 7, 8}, {1 << 31}, {7: 1}, {4: 0xAAAAAAAA, 5: 0x0F0F0F0F, 6: 0x33333333}, {0xAAAAAAAA, 0x0F0F0F0F, 0x33333333}}
}

func TestTurn(t *testing.T) {
	for _, h := range starts() {
		for _, b := range blocks() {
			if got, want := Turn(h, b), turned(h, b); got != want {
				t.Errorf("%x by %x: %x, not %x", h, b, got, want)
			}
		}
	}
}

// TestTurnKnown: one block of nothing but what stands behind no bytes.
func TestTurnKnown(t *testing.T) {
	got := Turn(begin(), append([]byte{128}, counted(63, 0, 0)...))
	want := [8]uint32{0xE3B0C442, 0x98FC1C14, 0x9AFBF4C8, 0x996FB924, 0x27AE41E4, 0x649B934C, 0xA495991B, 0x7852B855}
	if got != want {
		t.Errorf("%x, not %x", got, want)
	}
}

func TestTurnWrong(t *testing.T) {
	for _, h := range starts() {
		for _, b := range wrong() {
			if got := Turn(h, b); got != h {
				t.Errorf("%x by %d bytes: %x", h, len(b), got)
			}
		}
	}
}

// P3.3

func TestPad(t *testing.T) {
	for _, c := range []struct {
		n, zeros int
		tail     string
	}{
		{0, 55, "0000000000000000"}, {1, 54, "0000000000000008"}, {3, 52, "0000000000000018"},
		{54, 1, "00000000000001b0"}, {55, 0, "00000000000001b8"}, {56, 63, "00000000000001c0"}, {57, 62, "00000000000001c8"},
		{62, 57, "00000000000001f0"}, {63, 56, "00000000000001f8"}, {64, 55, "0000000000000200"}, {65, 54, "0000000000000208"},
		{119, 0, "00000000000003b8"}, {120, 63, "00000000000003c0"}, {128, 55, "0000000000000400"},
		{1 << 24, 55, "0000000008000000"}, {1<<31 - 1, 56, "00000003fffffff8"}, {1 << 40, 55, "0000080000000000"},
	} {
		want := append([]byte{0x80}, make([]byte, c.zeros)...)
		tail, _ := hex.DecodeString(c.tail)
		if want = append(want, tail...); !bytes.Equal(Pad(c.n), want) {
			t.Errorf("Pad(%d) = %x, not %x", c.n, Pad(c.n), want)
		}
	}
}

// TestPadFills: the whole is a multiple of 64, and no multiple less of 64 would do.
func TestPadFills(t *testing.T) {
	for n := range 1000 {
		if p := Pad(n); (n+len(p))%64 != 0 || len(p) < 9 || len(p) > 9+63 {
			t.Errorf("%d behind %d", len(p), n)
		}
	}
}

func TestPadWrong(t *testing.T) {
	for _, n := range []int{-1, -8, -55, -56, -64, math.MinInt} {
		if p := Pad(n); len(p) != 0 {
			t.Errorf("Pad(%d) = %x", n, p)
		}
	}
	// Past all bounds it only has to end, and not to panic.
	for _, n := range []int{1 << 60, 1 << 61, 1 << 62, math.MaxInt - 8, math.MaxInt} {
		Pad(n)
	}
}

func TestOf(t *testing.T) {
	for _, c := range []struct{ text, want string }{
		{"", "e3b0c44298fc1c149afbf4c8996fb92427ae41e4649b934ca495991b7852b855"},
		{"abc", "ba7816bf8f01cfea414140de5dae2223b00361a396177a9cb410ff61f20015ad"},
		{"message digest", "f7846f55cf23e14eebeab5b4e1550cad5b509e3348fbc4efa3a1413d393cb650"},
		{"The quick brown fox jumps over the lazy dog", "d7a8fbb307d7809469ca9abcb0082e4f8d5651e46d3cdb762d02d0bf37c9e592"},
		{"abcdbcdecdefdefgefghfghighijhijkijkljklmklmnlmnomnopnopq", "248d6a61d20638b8e5c026930c3e6039a33ce45964ff2167f6ecedd419db06c1"},
		{"abcdefghbcdefghicdefghijdefghijkefghijklfghijklmghijklmnhijklmnoijklmnopjklmnopqklmnopqrlmnopqrsmnopqrstnopqrstu", "cf5b16a778af8380036ce59e7b0492370b249b11e8f07a51afac45037afee9d1"},
		{strings.Repeat("1234567890", 8), "f371bc4a311f2b009eef952dd83ca80e2b60026c8e935592d0f9c308453c813e"},
		{strings.Repeat("a", 64), "ffe054fe7ae0cb6dc65c3af9b61d5209f439851db43d0ba5997337df154668eb"},
		{strings.Repeat("a", 1000000), "cdc76e5c9914fb9281a1c7e284d73e67f1809a48a497200e046d39ccc7112cd0"},
	} {
		d := Of([]byte(c.text))
		if got := hex.EncodeToString(d[:]); got != c.want {
			t.Errorf("Of(%.20q..) = %s, not %s", c.text, got, c.want)
		}
	}
	if Of(nil) != Of([]byte{}) {
		t.Error("nil and empty are not the same")
	}
}

// TestOfAll: all lengths at the edges of blocks are as the library has them.
func TestOfAll(t *testing.T) {
	for _, b := range texts() {
		if got := Of(b); got != sha256.Sum256(b) {
			t.Errorf("%d bytes: %x, not %x", len(b), got, sha256.Sum256(b))
		}
	}
}

// TestOfTurns: a digest is Turn by each block of the bytes and their Pad.
func TestOfTurns(t *testing.T) {
	for _, b := range texts() {
		h, all := begin(), append(bytes.Clone(b), Pad(len(b))...)
		for len(all) > 0 {
			h, all = Turn(h, all[:64]), all[64:]
		}
		d := Of(b)
		for i, x := range h {
			if got := uint32(d[4*i])<<24 + uint32(d[4*i+1])<<16 + uint32(d[4*i+2])<<8 + uint32(d[4*i+3]); got != x {
				t.Errorf("%d bytes, word %d: %x, not %x", len(b), i, got, x)
			}
		}
	}
}

func TestLink(t *testing.T) {
	zero := api.Digest{}
	for _, d := range []api.Digest{zero, {255, 31: 255}, {31: 1}, Of(nil), Of([]byte("abc"))} {
		for _, b := range texts() {
			if got, want := Link(d, b), sha256.Sum256(append(d[:], b...)); got != want {
				t.Errorf("%x and %d bytes: %x, not %x", d, len(b), got, want)
			}
		}
	}
}

func TestLinkKnown(t *testing.T) {
	d := Link(api.Digest{}, nil)
	if got := hex.EncodeToString(d[:]); got != "66687aadf862bd776c8fc18b8e9f8e20089714856ee233b3902a591d0d5f2925" {
		t.Errorf("of nothing: %s", got)
	}
	if d != Link(api.Digest{}, []byte{}) || d != Of(make([]byte, 32)) {
		t.Error("nil and empty are not the same")
	}
	d = Link(api.Digest{}, make([]byte, 32))
	if got := hex.EncodeToString(d[:]); got != "f5a5fd42d16a20302798ef6ed309979b43003d2320d9f0e8ea9831a92759fb4b" {
		t.Errorf("of a block just so: %s", got)
	}
}

// P3.4

// chain answers where links of bytes come to.
func chain(d api.Digest, links ...string) api.Digest {
	for _, b := range links {
		d = Link(d, []byte(b))
	}
	return d
}

// TestChains: of all chains of as many links, of short texts that may be cut in many ways, no two come to one digest.
func TestChains(t *testing.T) {
	parts := []string{"", "\x00", "a", "b", "ab", "ba", "aa", "abc", strings.Repeat("a", 23), strings.Repeat("a", 24), strings.Repeat("a", 64), strings.Repeat("a", 65)}
	ones := []api.Digest{{}, {1}, {31: 1}, Of(nil), Link(api.Digest{}, nil), Of([]byte("a"))}
	seen := []map[api.Digest]string{{}, {}, {}, {}}
	tell := func(links int, d api.Digest, name string) {
		if was, ok := seen[links][d]; ok {
			t.Errorf("%s and %s come to one digest", was, name)
		}
		seen[links][d] = name
	}
	for i, d := range ones {
		from := string(rune('0' + i))
		tell(0, d, from)
		for _, x := range parts {
			tell(1, chain(d, x), from+"|"+x)
			for _, y := range parts {
				tell(2, chain(d, x, y), from+"|"+x+"|"+y)
				for _, z := range parts {
					tell(3, chain(d, x, y, z), from+"|"+x+"|"+y+"|"+z)
				}
			}
		}
	}
}

// TestChainsChanged: a bit that is turned, in what a chain begins with or in any of its bytes, comes to another digest.
func TestChainsChanged(t *testing.T) {
	texts := []string{"one", "", "a longer one, which goes past the end of the first block", "4"}
	want := chain(api.Digest{}, texts...)
	for bit := range 256 {
		d := api.Digest{}
		d[bit/8] ^= 1 << (bit % 8)
		if chain(d, texts...) == want {
			t.Errorf("bit %d of what it begins with", bit)
		}
	}
	for i, s := range texts {
		for bit := range 8 * len(s) {
			b := []byte(s)
			b[bit/8] ^= 1 << (bit % 8)
			l := append([]string{}, texts...)
			l[i] = string(b)
			if chain(api.Digest{}, l...) == want {
				t.Errorf("bit %d of link %d", bit, i)
			}
		}
	}
}

// R3: what is handed in is not changed, answers are new memory, and what stands behind a list's end is nobody's.
func TestNothingShared(t *testing.T) {
	room := bytes.Repeat([]byte("abc"), 60)
	whole := bytes.Clone(room)
	b := room[:64]
	h := begin()
	d := Of(b)
	Words(b)
	Turn(h, b)
	Link(d, b)
	if h != begin() || d != Of(whole[:64]) || d != sha256.Sum256(whole[:64]) {
		t.Error("what was handed in counts no more the same")
	}
	if Of(room[:3:180]) != sha256.Sum256([]byte("abc")) || !bytes.Equal(room, whole) {
		t.Error("what stands behind the end is changed, or counts")
	}
	p := Pad(3)
	clear(p)
	if q := Pad(3); q[0] != 0x80 || q[60] != 24 {
		t.Errorf("answers share memory: %x", q)
	}
	w := Words(b)
	clear(w[:])
	if Words(b) == w || Of(b) != d {
		t.Error("an answer is kept")
	}
}
