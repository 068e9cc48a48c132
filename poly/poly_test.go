package poly

import (
	"bytes"
	"hash/crc32"
	"strings"
	"testing"
)

// slow goes on from a sum, bit by bit, as the chapter's words say.
func slow(s uint32, b []byte) uint32 {
	for _, x := range b {
		s = ^s ^ uint32(x)
		for range 8 {
			odd := s%2 == 1
			s /= 2
			if odd {
				s ^= 0x82f63b78
			}
		}
		s = ^s
	}
	return s
}

// mixed are n bytes without a short rule that a reader would see.
func mixed(n int) []byte {
	b := make([]byte, n)
	x := uint32(1)
	for i := range b {
		x = x*1664525 + 1013904223
		b[i] = byte(x >> 24)
	}
	return b
}

// texts are ordinary ones and the edges.
func texts() [][]byte {
	l := [][]byte{
		nil,
		{},
		[]byte("123456789"),
		[]byte("The quick brown fox jumps over the lazy dog"),
		[]byte(strings.Repeat("freeboard ", 100)),
		make([]byte, 128),
		bytes.Repeat([]byte{255}, 128),
		mixed(5000),
	}
	for x := range 256 {
		l = append(l, []byte{byte(x)})
	}
	for n := range 140 {
		l = append(l, mixed(n))
	}
	return l
}

// starts are sums to go on from.
func starts() []uint32 {
	l := []uint32{0, 1, 5, 15, 16, 0x7fffffff, 0x80000000, 0x82f63b78, 0xe3069283, 0xfffffffe, 0xffffffff}
	for i := range 32 {
		l = append(l, 1<<i)
	}
	return l
}

// P1.1: sums that are known from elsewhere.
func TestKnownSums(t *testing.T) {
	down := make([]byte, 32)
	up := make([]byte, 32)
	for i := range 32 {
		up[i], down[i] = byte(i), byte(31-i)
	}
	for _, c := range []struct {
		name string
		text []byte
		sum  uint32
	}{
		{"nil", nil, 0},
		{"nothing", []byte{}, 0},
		{"nine digits", []byte("123456789"), 0xe3069283},
		{"one letter", []byte("a"), 0xc1d04330},
		{"32 noughts", make([]byte, 32), 0x8a9136aa},
		{"32 times all bits", bytes.Repeat([]byte{255}, 32), 0x62a8ab43},
		{"32 rising", up, 0x46dd794e},
		{"32 falling", down, 0x113fdb5c},
	} {
		if s := Sum(c.text); s != c.sum {
			t.Errorf("%s: %08x, not %08x", c.name, s, c.sum)
		}
	}
}

// P1.1: Sum goes on from 0, by the chapter's words and by the library's CRC32C.
func TestSumByWords(t *testing.T) {
	table := crc32.MakeTable(crc32.Castagnoli)
	for _, b := range texts() {
		s := Sum(b)
		if w := slow(0, b); s != w {
			t.Errorf("%d bytes %.20q: %08x, by the words %08x", len(b), b, s, w)
		}
		if w := crc32.Checksum(b, table); s != w {
			t.Errorf("%d bytes %.20q: %08x, by the library %08x", len(b), b, s, w)
		}
		if w := Over(0, b); s != w {
			t.Errorf("%d bytes %.20q: %08x, but over 0 %08x", len(b), b, s, w)
		}
	}
}

// P1.1: Over goes on from whatever sum, with none, one and many bytes.
func TestOverByWords(t *testing.T) {
	for _, s := range starts() {
		for _, b := range texts() {
			if o, w := Over(s, b), slow(s, b); o != w {
				t.Errorf("over %08x, %d bytes %.20q: %08x, by the words %08x", s, len(b), b, o, w)
			}
		}
	}
}

// P1.1: with no bytes, nil ones too, a sum stays as it is.
func TestOverNothing(t *testing.T) {
	for _, s := range starts() {
		for _, b := range [][]byte{nil, {}, mixed(9)[:0]} {
			if o := Over(s, b); o != s {
				t.Errorf("over %08x with nothing: %08x", s, o)
			}
		}
	}
}

// P1.1: the chapter's second row of examples.
func TestOverExamples(t *testing.T) {
	if s := Over(0xe3069283, nil); s != 0xe3069283 {
		t.Errorf("over e3069283 with nothing: %08x", s)
	}
	if s := Over(Sum([]byte("1234")), []byte("56789")); s != 0xe3069283 {
		t.Errorf("1234 and 56789: %08x", s)
	}
}

// P1.2: what is handed in, and what stands behind it, is as it was.
func TestOnlyRead(t *testing.T) {
	for _, b := range texts() {
		whole := append(append([]byte{}, b...), mixed(8)...)
		was := bytes.Clone(whole)
		Sum(whole[:len(b)])
		Over(0xffffffff, whole[:len(b)])
		if !bytes.Equal(whole, was) {
			t.Errorf("%d bytes %.20q: turned", len(b), b)
		}
	}
}

// P1.2: what stands behind the bytes isn't looked at, and nothing is kept of a call ahead.
func TestNothingElseCounts(t *testing.T) {
	b := mixed(40)
	first := Sum(b[:20])
	for i := range b[20:] {
		b[20+i] ^= 255
	}
	Sum(b)
	Over(7, b)
	if s := Sum(b[:20]); s != first {
		t.Errorf("%08x, then %08x", first, s)
	}
}

// P1.3: the sum of both goes on from the first ones' with the others, wherever they are parted.
func TestParted(t *testing.T) {
	for _, b := range [][]byte{[]byte("123456789"), make([]byte, 33), bytes.Repeat([]byte{255}, 33), mixed(300)} {
		for _, from := range starts() {
			whole := Over(from, b)
			for k := range len(b) + 1 {
				if s := Over(Over(from, b[:k]), b[k:]); s != whole {
					t.Fatalf("from %08x, %d bytes at %d: %08x, not %08x", from, len(b), k, s, whole)
				}
			}
		}
	}
}

// P1.3: from sums that are not the same one goes on to sums that are not.
func TestOverKeepsApart(t *testing.T) {
	for _, b := range texts() {
		seen := map[uint32]uint32{}
		for _, s := range starts() {
			o := Over(s, b)
			if other, is := seen[o]; is && other != s {
				t.Errorf("%d bytes %.20q: from %08x and %08x to %08x", len(b), b, s, other, o)
			}
			seen[o] = s
		}
	}
}

// P1.3: texts with up to four bytes side by side turned have another sum.
func TestTurnedBytes(t *testing.T) {
	turns := [][]byte{
		{1}, {128}, {255},
		{1, 1}, {128, 1}, {255, 255},
		{1, 0, 1}, {255, 255, 255},
		{1, 0, 0, 1}, {1, 0, 0, 128}, {128, 0, 0, 1}, {255, 255, 255, 255},
		{0x78, 0x3b, 0xf6, 0x82}, {0x82, 0xf6, 0x3b, 0x78},
	}
	for _, b := range [][]byte{[]byte("123456789"), make([]byte, 128), bytes.Repeat([]byte{255}, 128), mixed(128)} {
		s := Sum(b)
		for _, turn := range turns {
			for at := range len(b) - len(turn) + 1 {
				other := bytes.Clone(b)
				for i, x := range turn {
					other[at+i] ^= x
				}
				if Sum(other) == s {
					t.Errorf("%d bytes turned by %x at %d: the sum is the same", len(b), turn, at)
				}
			}
		}
	}
}

// P1.3: all texts of one byte have sums of their own, and all of two.
func TestShortTextsApart(t *testing.T) {
	one, two := map[uint32]bool{}, map[uint32]bool{}
	for x := range 1 << 8 {
		one[Sum([]byte{byte(x)})] = true
	}
	for x := range 1 << 16 {
		two[Sum([]byte{byte(x), byte(x >> 8)})] = true
	}
	if len(one) != 1<<8 || len(two) != 1<<16 {
		t.Errorf("%d sums of one byte, %d of two", len(one), len(two))
	}
}

// P1.3: all texts have one sum behind the four bytes of their own, the lowest first.
func TestBehindOwnSum(t *testing.T) {
	const one = 0x48674bc7
	for _, b := range texts() {
		s := Sum(b)
		own := []byte{byte(s), byte(s >> 8), byte(s >> 16), byte(s >> 24)}
		if o := Over(s, own); o != one {
			t.Errorf("%d bytes %.20q: over the own sum %08x", len(b), b, o)
		}
		if o := Sum(append(bytes.Clone(b), own...)); o != one {
			t.Errorf("%d bytes %.20q: with the own sum behind %08x", len(b), b, o)
		}
	}
	if o := Over(0xffffffff, []byte{255, 255, 255, 255}); o != one {
		t.Errorf("all bits over all bits: %08x", o)
	}
}
