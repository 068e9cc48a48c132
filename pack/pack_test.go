package pack

import (
	"bytes"
	"math"
	"testing"

	"freeboard/api"
)

// mixed are n bytes without a short rule that a reader would see.
func mixed(n int) []byte {
	b := make([]byte, n)
	x := uint32(1)
	for i := range b {
		x = x*1664525 + 1013904223
		b[i] = byte(x >> 24)
	}
	return b
}

// blocks are all kinds of those that may be.
func blocks() [][]byte {
	return [][]byte{
		nil,
		{},
		make([]byte, api.Size),
		bytes.Repeat([]byte{255}, api.Size),
		mixed(api.Size),
		mixed(api.Size + 9)[:api.Size],
		mixed(9)[:0],
	}
}

// noBlocks are lists of bytes that are neither one nor none.
func noBlocks() [][]byte {
	return [][]byte{
		{0},
		mixed(4),
		mixed(api.Size - 1),
		mixed(api.Size + 1),
		mixed(2 * api.Size),
		mixed(api.Size)[:api.Size-1],
	}
}

// full is a block's bytes as the chapter's words have them: none is one of noughts.
func full(block []byte) []byte {
	if len(block) == 0 {
		return make([]byte, api.Size)
	}
	return bytes.Clone(block)
}

// next is 256^size: the first number that is none of that size.
func next(size int) int {
	n := 1
	for range size {
		n *= 256
	}
	return n
}

// numbers are some of a size: the edges, and one whose bytes are all unlike.
func numbers(size int) []int {
	top := next(size)
	l := []int{0, 1, 127, 128, 254, 255, 0x04030201 % top, 0xf1e2d3c4 % top, top / 2, top - 2, top - 1}
	for s := range size {
		l = append(l, next(s), next(s+1)-1)
	}
	return l
}

// byWords is the block that P2.1 tells: byte i of n is n, i times divided by 256, and what is left of 256.
func byWords(block []byte, at, size, n int) []byte {
	b := full(block)
	for i := 0; i < size; i++ {
		b[at+i] = byte(n % 256)
		n /= 256
	}
	return b
}

func mustPut(t *testing.T, block []byte, at, size, n int) []byte {
	t.Helper()
	b, e := Put(block, at, size, n)
	if e != api.OK || len(b) != api.Size {
		t.Fatalf("put at %d, size %d, %d: error %d, %d bytes", at, size, n, e, len(b))
	}
	return b
}

func mustTake(t *testing.T, block []byte, at, size int) int {
	t.Helper()
	n, e := Take(block, at, size)
	if e != api.OK {
		t.Fatalf("take at %d, size %d: error %d", at, size, e)
	}
	return n
}

// P2.1: the chapter's examples.
func TestExamples(t *testing.T) {
	b := mustPut(t, nil, 1, 2, 258)
	if !bytes.Equal(b[:4], []byte{0, 2, 1, 0}) {
		t.Errorf("first four bytes: %v", b[:4])
	}
	if n := mustTake(t, b, 1, 2); n != 258 {
		t.Errorf("taken: %d", n)
	}
	for _, c := range [][3]int{{0, 1, 256}, {127, 2, 0}, {0, 5, 0}, {-1, 1, 0}} {
		if _, e := Put(nil, c[0], c[1], c[2]); e != api.ErrArg {
			t.Errorf("put none at %d, size %d, %d: error %d", c[0], c[1], c[2], e)
		}
	}
	if _, e := Put([]byte{7}, 0, 1, 0); e != api.ErrText {
		t.Errorf("put one byte: error %d", e)
	}
	if n := mustTake(t, nil, 5, 4); n != 0 {
		t.Errorf("taken of none: %d", n)
	}
}

// P2.1: each block, place and size, and numbers of it, by the chapter's words.
func TestPutByWords(t *testing.T) {
	for k, block := range blocks() {
		for size := 1; size <= 4; size++ {
			for at := 0; at <= api.Size-size; at++ {
				for _, n := range numbers(size) {
					b, e := Put(block, at, size, n)
					if w := byWords(block, at, size, n); e != api.OK || !bytes.Equal(b, w) {
						t.Fatalf("block %d, at %d, size %d, %d: error %d, %v, by the words %v", k, at, size, n, e, b, w)
					}
				}
			}
		}
	}
}

// P2.1: what is taken of each block, place and size, by the chapter's words: from the highest byte down.
func TestTakeByWords(t *testing.T) {
	for k, block := range blocks() {
		for size := 1; size <= 4; size++ {
			for at := 0; at <= api.Size-size; at++ {
				w := 0
				for i := size - 1; i >= 0; i-- {
					w = w*256 + int(full(block)[at+i])
				}
				if n, e := Take(block, at, size); e != api.OK || n != w {
					t.Fatalf("block %d, at %d, size %d: error %d, %d, by the words %d", k, at, size, e, n, w)
				}
			}
		}
	}
}

// P2.1: bytes that are no block.
func TestNoBlock(t *testing.T) {
	for _, block := range noBlocks() {
		for size := 1; size <= 4; size++ {
			for _, at := range []int{0, 1, api.Size - size} {
				wantPut(t, block, at, size, 0, api.ErrText)
				wantTake(t, block, at, size, api.ErrText)
			}
		}
	}
}

// wantPut asks for an error, and no block beside it.
func wantPut(t *testing.T, block []byte, at, size, n int, want api.Errno) {
	t.Helper()
	if b, e := Put(block, at, size, n); e != want || b != nil {
		t.Errorf("put in %d bytes at %d, size %d, %d: error %d, not %d, and %v", len(block), at, size, n, e, want, b)
	}
}

// wantTake asks for an error, and 0 beside it.
func wantTake(t *testing.T, block []byte, at, size int, want api.Errno) {
	t.Helper()
	if n, e := Take(block, at, size); e != want || n != 0 {
		t.Errorf("take of %d bytes at %d, size %d: error %d, not %d, and %d", len(block), at, size, e, want, n)
	}
}

// noSizes are those beside 1 to 4, and far off.
func noSizes() []int {
	return []int{0, 5, 6, 8, -1, -4, api.Size, 256, math.MaxInt32, math.MinInt32, math.MaxInt, math.MaxInt - 1, math.MinInt, math.MinInt + 1}
}

// noPlaces are those beside the places of a size, and far off.
func noPlaces(size int) []int {
	return []int{-1, -2, -size, -api.Size, api.Size - size + 1, api.Size - size + 2, api.Size, api.Size + 1, 256, math.MaxInt32, math.MinInt32, math.MaxInt, math.MaxInt - 1, math.MaxInt - size, math.MaxInt - size + 1, math.MinInt, math.MinInt + 1}
}

// noNumbers are those beside the numbers of a size, and far off.
func noNumbers(size int) []int {
	l := []int{-1, -2, -128, -255, -256, math.MinInt32, math.MinInt, math.MinInt + 1, math.MaxInt, math.MaxInt - 1, 1 << 40, 1 << 62}
	for s := size; s <= 5; s++ {
		l = append(l, next(s), next(s)+1, -next(s), 1-next(s))
	}
	return l
}

// P2.1: a size that is none.
func TestNoSize(t *testing.T) {
	for _, block := range blocks() {
		for _, size := range noSizes() {
			for _, at := range []int{0, 1, 64, api.Size - 8, api.Size - 1, -size, api.Size - size} {
				wantPut(t, block, at, size, 0, api.ErrArg)
				wantPut(t, block, at, size, 1, api.ErrArg)
				wantTake(t, block, at, size, api.ErrArg)
			}
		}
	}
}

// P2.1: a place that is none of that size.
func TestNoPlace(t *testing.T) {
	for _, block := range blocks() {
		for size := 1; size <= 4; size++ {
			for _, at := range noPlaces(size) {
				wantPut(t, block, at, size, 0, api.ErrArg)
				wantTake(t, block, at, size, api.ErrArg)
			}
		}
	}
}

// P2.1: the first and the last place of each size are places of it.
func TestFirstAndLastPlace(t *testing.T) {
	for _, block := range blocks() {
		for size := 1; size <= 4; size++ {
			for _, at := range []int{0, api.Size - size} {
				b := mustPut(t, block, at, size, next(size)-1)
				if n := mustTake(t, b, at, size); n != next(size)-1 {
					t.Errorf("at %d, size %d: %d", at, size, n)
				}
			}
		}
	}
}

// P2.1: a number that is none of that size, at places that are.
func TestNoNumber(t *testing.T) {
	for _, block := range blocks() {
		for size := 1; size <= 4; size++ {
			for _, n := range noNumbers(size) {
				for _, at := range []int{0, 50, api.Size - size} {
					wantPut(t, block, at, size, n, api.ErrArg)
				}
			}
		}
	}
}

// P2.1: where there is no block, that is told, whatever else is wrong.
func TestNoBlockIsToldFirst(t *testing.T) {
	for _, block := range noBlocks() {
		for _, size := range noSizes() {
			wantPut(t, block, 0, size, 0, api.ErrText)
			wantPut(t, block, -1, size, -1, api.ErrText)
			wantTake(t, block, 0, size, api.ErrText)
			wantTake(t, block, -1, size, api.ErrText)
		}
		for size := 1; size <= 4; size++ {
			for _, at := range noPlaces(size) {
				wantPut(t, block, at, size, 0, api.ErrText)
				wantPut(t, block, at, size, -1, api.ErrText)
				wantTake(t, block, at, size, api.ErrText)
			}
			for _, n := range noNumbers(size) {
				wantPut(t, block, 0, size, n, api.ErrText)
			}
		}
	}
}

// P2.1: several things wrong with a block that is one are one error.
func TestSeveralWrong(t *testing.T) {
	far := []int{math.MinInt, -1, 0, 5, api.Size, math.MaxInt}
	for _, block := range blocks() {
		for _, at := range far {
			for _, size := range []int{math.MinInt, -1, 0, 5, math.MaxInt} {
				for _, n := range far {
					wantPut(t, block, at, size, n, api.ErrArg)
				}
				wantTake(t, block, at, size, api.ErrArg)
			}
		}
	}
}

// P2.2: the block, and what stands behind it in its memory, is as it was.
func TestOnlyRead(t *testing.T) {
	for k, block := range append(blocks(), noBlocks()...) {
		whole := append(bytes.Clone(block), mixed(api.Size)...)
		was := bytes.Clone(whole)
		for size := 0; size <= 5; size++ {
			for at := -1; at <= api.Size; at++ {
				Put(whole[:len(block)], at, size, 0)
				Put(whole[:len(block)], at, size, next(size)-1)
				Put(whole[:len(block)], at, size, -1)
				Take(whole[:len(block)], at, size)
			}
		}
		if !bytes.Equal(whole, was) {
			t.Errorf("block %d: turned", k)
		}
	}
}

// P2.2: what is answered shares nothing with what was handed in, whichever of both is turned, also where the number stood there ahead of that.
func TestNewMemory(t *testing.T) {
	for k, block := range blocks() {
		for size := 1; size <= 4; size++ {
			in := append(bytes.Clone(block), mixed(api.Size)...)[:len(block)]
			for _, n := range []int{0, mustTake(t, in, 9, size), next(size) - 1} {
				was, b := bytes.Clone(in), mustPut(t, in, 9, size, n)
				told := bytes.Clone(b)
				turn(b)
				if !bytes.Equal(in, was) {
					t.Fatalf("block %d, size %d, %d: turned by way of the answer", k, size, n)
				}
				turn(b)
				turn(in)
				if !bytes.Equal(b, told) {
					t.Fatalf("block %d, size %d, %d: the answer is turned by way of the block", k, size, n)
				}
				turn(in)
			}
		}
	}
}

// turn turns all bits of all bytes, and of what has room behind them.
func turn(b []byte) {
	b = b[:cap(b)]
	for i := range b {
		b[i] ^= 255
	}
}

// P2.2: two answers share nothing, and what is done with one is not seen in a later one.
func TestAnswersApart(t *testing.T) {
	for k, block := range blocks() {
		one := mustPut(t, block, 3, 4, 77)
		two := mustPut(t, block, 3, 4, 77)
		told := bytes.Clone(two)
		turn(one)
		if !bytes.Equal(two, told) {
			t.Errorf("block %d: two answers share bytes", k)
		}
		if three := mustPut(t, block, 3, 4, 77); !bytes.Equal(three, told) {
			t.Errorf("block %d: another answer at the third time", k)
		}
	}
}

// P2.3: what is put is taken, and all other bytes stay.
func TestPutIsTaken(t *testing.T) {
	for k, block := range blocks() {
		for size := 1; size <= 4; size++ {
			for at := 0; at <= api.Size-size; at++ {
				for _, n := range numbers(size) {
					b := mustPut(t, block, at, size, n)
					if got := mustTake(t, b, at, size); got != n {
						t.Fatalf("block %d, at %d, size %d: put %d, taken %d", k, at, size, n, got)
					}
					was := full(block)
					if !bytes.Equal(b[:at], was[:at]) || !bytes.Equal(b[at+size:], was[at+size:]) {
						t.Fatalf("block %d, at %d, size %d, %d: other bytes are turned", k, at, size, n)
					}
				}
			}
		}
	}
}

// P2.3: all numbers of one byte and of two are taken as they were put.
func TestAllShortNumbers(t *testing.T) {
	block := mixed(api.Size)
	for size := 1; size <= 2; size++ {
		for n := range next(size) {
			if got := mustTake(t, mustPut(t, block, 60, size, n), 60, size); got != n {
				t.Fatalf("size %d: put %d, taken %d", size, n, got)
			}
		}
	}
}

// P2.3: two at places that share no byte may be put in either order, and both are taken.
func TestEitherOrder(t *testing.T) {
	block := mixed(api.Size)
	for a := 1; a <= 4; a++ {
		for b := 1; b <= 4; b++ {
			for at := 0; at <= api.Size-a; at++ {
				for _, by := range []int{0, at - b, at + a, api.Size - b} {
					if by < 0 || by > api.Size-b || by < at+a && at < by+b {
						continue
					}
					x, y := 0x91827364%next(a), 0xa5b6c7d8%next(b)
					one := mustPut(t, mustPut(t, block, at, a, x), by, b, y)
					two := mustPut(t, mustPut(t, block, by, b, y), at, a, x)
					if !bytes.Equal(one, two) || mustTake(t, one, at, a) != x || mustTake(t, one, by, b) != y {
						t.Fatalf("size %d at %d and size %d at %d", a, at, b, by)
					}
				}
			}
		}
	}
}

// P2.3: of two at one place, of one size, the later one stands, as if it had been put alone.
func TestLaterStands(t *testing.T) {
	for _, block := range blocks() {
		for size := 1; size <= 4; size++ {
			for _, at := range []int{0, 1, 63, api.Size - size} {
				for _, first := range numbers(size) {
					for _, n := range numbers(size) {
						b := mustPut(t, mustPut(t, block, at, size, first), at, size, n)
						if !bytes.Equal(b, mustPut(t, block, at, size, n)) || mustTake(t, b, at, size) != n {
							t.Fatalf("at %d, size %d: %d, then %d", at, size, first, n)
						}
					}
				}
			}
		}
	}
}

// P2.3: what is taken, put where it was, changes nothing.
func TestTakenIsPut(t *testing.T) {
	for k, block := range blocks() {
		for size := 1; size <= 4; size++ {
			for at := 0; at <= api.Size-size; at++ {
				if b := mustPut(t, block, at, size, mustTake(t, block, at, size)); !bytes.Equal(b, full(block)) {
					t.Fatalf("block %d, at %d, size %d: changed", k, at, size)
				}
			}
		}
	}
}
