package fold

import (
	"bytes"
	"testing"

	"freeboard/api"
)

// mixed are n bytes without a short rule that a reader would see, others for each seed.
func mixed(seed uint32, n int) []byte {
	b := make([]byte, n)
	x := seed*2654435761 + 1
	for i := range b {
		x = x*1664525 + 1013904223
		b[i] = byte(x >> 24)
	}
	return b
}

// of is a block of one byte over and over.
func of(x byte) []byte {
	return bytes.Repeat([]byte{x}, api.Size)
}

// blocks are n mixed ones, all unlike.
func blocks(n int) [][]byte {
	l := make([][]byte, n)
	for i := range l {
		l[i] = mixed(uint32(i+1), api.Size)
	}
	return l
}

// lists are all kinds of those that may be: each number of blocks, with none of them left out, or some, by nil or by an empty one.
func lists() [][][]byte {
	l := [][][]byte{nil, {}, {of(0)}, {of(255)}, {of(255), of(255), of(255)}, {of(1), of(2), of(4), of(8)}}
	for n := range api.MaxMembers + 1 {
		l = append(l, blocks(n), make([][]byte, n))
		for at := range n {
			one, other := blocks(n), blocks(n)
			one[at], other[at] = nil, []byte{}
			l = append(l, one, other)
		}
		for _, step := range []int{2, 3} {
			some, rest := blocks(n), blocks(n)
			for i := range n {
				if i%step == 0 {
					some[i] = nil
				} else {
					rest[i] = mixed(7, 9)[:0]
				}
			}
			l = append(l, some, rest)
		}
	}
	return l
}

// noBlocks are lists of bytes that are neither one nor none.
func noBlocks() [][]byte {
	return [][]byte{
		{0},
		mixed(1, 2),
		make([]byte, api.Size-1),
		make([]byte, api.Size+1),
		mixed(2, api.Size)[:api.Size-1],
		mixed(3, api.Size+1),
		mixed(4, 2*api.Size),
		make([]byte, 1<<16),
	}
}

// byWords is the fold by the chapter's words: a bit of a byte is there where oddly many blocks have it.
func byWords(l [][]byte) []byte {
	b := make([]byte, api.Size)
	for i := range b {
		for bit := range 8 {
			many := 0
			for _, block := range l {
				if len(block) != 0 && block[i]>>bit&1 == 1 {
					many++
				}
			}
			if many%2 == 1 {
				b[i] |= 1 << bit
			}
		}
	}
	return b
}

// must is the fold of blocks that may be.
func must(t *testing.T, l ...[]byte) []byte {
	t.Helper()
	b, e := Fold(l)
	if e != api.OK || len(b) != api.Size {
		t.Fatalf("%d blocks: error %d, %d bytes", len(l), e, len(b))
	}
	return b
}

// want asks for a fold.
func want(t *testing.T, name string, w []byte, l ...[]byte) {
	t.Helper()
	if b, e := Fold(l); e != api.OK || !bytes.Equal(b, w) {
		t.Errorf("%s: error %d, %v, not %v", name, e, b, w)
	}
}

// wantError asks for an error, and no block beside it.
func wantError(t *testing.T, l [][]byte, w api.Errno) {
	t.Helper()
	if b, e := Fold(l); e != w || b != nil {
		t.Errorf("%d blocks: error %d, not %d, and %v", len(l), e, w, b)
	}
}

// turn turns all bits of all bytes, and of what has room behind them.
func turn(b []byte) {
	b = b[:cap(b)]
	for i := range b {
		b[i] ^= 255
	}
}

// twin is a list in new memory, with room behind each block, and behind the list.
func twin(l [][]byte) [][]byte {
	all := make([][]byte, len(l), len(l)+3)
	for i, block := range l {
		all[i] = append(bytes.Clone(block), mixed(99, 5)...)[:len(block)]
	}
	return all
}

// same tells whether two lists have the same bytes, with what stands in the room behind each block.
func same(a, b [][]byte) bool {
	if len(a) != len(b) {
		return false
	}
	for i := range a {
		if len(a[i]) != len(b[i]) || !bytes.Equal(a[i][:len(a[i])+5], b[i][:len(b[i])+5]) {
			return false
		}
	}
	return true
}

// P3.1: the chapter's examples.
func TestExamples(t *testing.T) {
	a, b := of(5), of(3)
	want(t, "nothing", of(0))
	want(t, "a", a, a)
	want(t, "a b", of(6), a, b)
	want(t, "a b a", b, a, b, a)
	want(t, "none and a", a, nil, a)
	wantError(t, [][]byte{{7}}, api.ErrText)
	wantError(t, make([][]byte, 17), api.ErrMany)
}

// P3.1: all kinds of lists, by the chapter's words.
func TestByWords(t *testing.T) {
	for k, l := range lists() {
		if b, w := must(t, l...), byWords(l); !bytes.Equal(b, w) {
			t.Errorf("list %d, %d blocks: %v, by the words %v", k, len(l), b, w)
		}
	}
}

// P3.1: of no blocks, and of some that are all none, the fold is Size noughts.
func TestNothing(t *testing.T) {
	want(t, "a list that is nil", of(0), [][]byte(nil)...)
	want(t, "a list that is empty", of(0), [][]byte{}...)
	want(t, "a list with nothing but room", of(0), blocks(4)[:0]...)
	for n := range api.MaxMembers + 1 {
		empty := make([][]byte, n)
		want(t, "nil ones", of(0), empty...)
		for i := range empty {
			empty[i] = []byte{}
		}
		want(t, "empty ones", of(0), empty...)
	}
}

// P3.1: one block is its own fold, alone and with none of it around, at whatever place of the list.
func TestOne(t *testing.T) {
	for _, block := range [][]byte{of(0), of(1), of(255), mixed(5, api.Size)} {
		want(t, "alone", block, block)
		for n := 1; n <= api.MaxMembers; n++ {
			for at := range n {
				l := make([][]byte, n)
				l[at] = block
				if at > 0 {
					l[at-1] = []byte{}
				}
				want(t, "among none", block, l...)
			}
		}
	}
}

// P3.1: each bit of each byte of each block counts, there and nowhere else.
func TestEachBit(t *testing.T) {
	l := blocks(api.MaxMembers)
	all := must(t, l...)
	for k, block := range l {
		for i := range api.Size {
			for bit := range 8 {
				block[i] ^= 1 << bit
				all[i] ^= 1 << bit
				if b := must(t, l...); !bytes.Equal(b, all) {
					t.Fatalf("block %d, byte %d, bit %d: %v, not %v", k, i, bit, b, all)
				}
				block[i] ^= 1 << bit
				all[i] ^= 1 << bit
			}
		}
	}
}

// P3.1: a block that is none passes over itself alone: those behind it count.
func TestNoneAmongOthers(t *testing.T) {
	a, b, c := mixed(1, api.Size), mixed(2, api.Size), mixed(3, api.Size)
	w := must(t, a, b, c)
	for _, none := range [][]byte{nil, {}, mixed(4, api.Size)[:0]} {
		want(t, "ahead", w, none, a, b, c)
		want(t, "behind the first", w, a, none, b, c)
		want(t, "behind the second", w, a, b, none, c)
		want(t, "behind all", w, a, b, c, none)
		want(t, "everywhere", w, none, a, none, none, b, nil, c, []byte{}, none)
	}
	want(t, "a block of noughts", w, a, of(0), b, c)
}

// P3.1: blocks that share bytes are blocks like others.
func TestSharedBytes(t *testing.T) {
	long := mixed(6, 2*api.Size)
	for off := range api.Size + 1 {
		l := [][]byte{long[:api.Size], long[off : off+api.Size]}
		want(t, "side by side", byWords(l), l...)
	}
}

// P3.1: MaxMembers blocks are folded; one more, and many more, are too many, whatever they are.
func TestMany(t *testing.T) {
	full := blocks(api.MaxMembers)
	want(t, "all", byWords(full), full...)
	want(t, "all none", of(0), make([][]byte, api.MaxMembers)...)
	for _, n := range []int{api.MaxMembers + 1, api.MaxMembers + 2, 2 * api.MaxMembers, 255, 256, 272, 1 << 16} {
		wantError(t, make([][]byte, n), api.ErrMany)
		wantError(t, blocks(n), api.ErrMany)
		empty := make([][]byte, n)
		for i := range empty {
			empty[i] = []byte{}
		}
		wantError(t, empty, api.ErrMany)
	}
	wantError(t, append(blocks(api.MaxMembers), nil), api.ErrMany)
	wantError(t, append(make([][]byte, api.MaxMembers), of(1)), api.ErrMany)
}

// P3.1: bytes that are no block, at each place of a list, with blocks or none around.
func TestNoBlock(t *testing.T) {
	for _, bad := range noBlocks() {
		for n := 1; n <= api.MaxMembers; n++ {
			for at := range n {
				full, empty := blocks(n), make([][]byte, n)
				full[at], empty[at] = bad, bad
				wantError(t, full, api.ErrText)
				wantError(t, empty, api.ErrText)
			}
		}
	}
}

// P3.1: each length but 0 and Size is no block's.
func TestEachLength(t *testing.T) {
	long := mixed(8, 3*api.Size)
	for n := range len(long) + 1 {
		switch n {
		case 0:
			want(t, "none", of(0), long[:n])
		case api.Size:
			want(t, "one", long[:n], long[:n])
		default:
			wantError(t, [][]byte{long[:n]}, api.ErrText)
			wantError(t, [][]byte{of(1), nil, long[:n]}, api.ErrText)
		}
	}
}

// P3.1: several that are no block are one error.
func TestSeveralNoBlocks(t *testing.T) {
	wantError(t, noBlocks(), api.ErrText)
	wantError(t, append(noBlocks(), noBlocks()...), api.ErrText)
	// A short one and a long one have Size bytes together twice over.
	wantError(t, [][]byte{mixed(1, api.Size-1), mixed(2, api.Size+1)}, api.ErrText)
}

// P3.1: where there are too many, that is told, whatever they are.
func TestManyIsToldFirst(t *testing.T) {
	for _, bad := range noBlocks() {
		for _, at := range []int{0, 1, api.MaxMembers - 1, api.MaxMembers} {
			full, empty := blocks(api.MaxMembers+1), make([][]byte, api.MaxMembers+1)
			full[at], empty[at] = bad, bad
			wantError(t, full, api.ErrMany)
			wantError(t, empty, api.ErrMany)
		}
		all := make([][]byte, 100)
		for i := range all {
			all[i] = bad
		}
		wantError(t, all, api.ErrMany)
		wantError(t, all[:api.MaxMembers+1], api.ErrMany)
		wantError(t, all[:api.MaxMembers], api.ErrText)
	}
}

// P3.2: the list, its blocks, and what stands behind them in their memory are as they were, also beside an error.
func TestOnlyRead(t *testing.T) {
	all := append(lists(), noBlocks(), blocks(api.MaxMembers+1))
	for at := range 3 {
		l := blocks(3)
		l[at] = mixed(9, api.Size-1)
		all = append(all, l)
	}
	for k, l := range all {
		in, was := twin(l), twin(l)
		heads := append([][]byte{}, in...)
		Fold(in)
		if !same(in, was) {
			t.Errorf("list %d: turned", k)
		}
		for i := range in {
			if &in[i][:1][0] != &heads[i][:1][0] {
				t.Errorf("list %d: another block at %d", k, i)
			}
		}
		for i, block := range in[:cap(in)][len(in):] {
			if block != nil {
				t.Errorf("list %d: a block behind it at %d", k, i)
			}
		}
	}
}

// P3.2: a block that is none stays the one that it was, nil or empty.
func TestNoneStaysNone(t *testing.T) {
	l := [][]byte{nil, of(1), {}, nil}
	must(t, l...)
	if l[0] != nil || l[2] == nil || len(l[2]) != 0 || l[3] != nil {
		t.Errorf("none is another one: %v", l)
	}
}

// P3.2: what is answered shares nothing with what was handed in, whichever of both is turned: not of one block alone, or the one that isn't none, either.
func TestNewMemory(t *testing.T) {
	for k, l := range lists() {
		in := twin(l)
		b := must(t, in...)
		told := bytes.Clone(b)
		turn(b)
		if !same(in, twin(l)) {
			t.Fatalf("list %d: turned by way of the answer", k)
		}
		turn(b)
		for _, block := range in {
			turn(block)
		}
		if !bytes.Equal(b, told) {
			t.Fatalf("list %d: the answer is turned by way of a block", k)
		}
	}
}

// P3.2: two answers share nothing, and nothing that is done with one, or was refused, is seen in a later one.
func TestAnswersApart(t *testing.T) {
	for k, l := range lists() {
		one, two := must(t, l...), must(t, l...)
		told := bytes.Clone(two)
		turn(one)
		if !bytes.Equal(two, told) {
			t.Errorf("list %d: two answers share bytes", k)
		}
		Fold([][]byte{of(77), {1}})
		Fold(blocks(api.MaxMembers + 1))
		if three := must(t, l...); !bytes.Equal(three, told) {
			t.Errorf("list %d: another answer at the third time", k)
		}
	}
}

// orders calls f with a list in each order that it can have.
func orders(l [][]byte, k int, f func([][]byte)) {
	if k == len(l) {
		f(l)
		return
	}
	for i := k; i < len(l); i++ {
		l[k], l[i] = l[i], l[k]
		orders(l, k+1, f)
		l[k], l[i] = l[i], l[k]
	}
}

// P3.3: a fold hangs on no order.
func TestNoOrder(t *testing.T) {
	for _, l := range [][][]byte{blocks(2), blocks(5), {of(5), nil, mixed(2, api.Size), {}, of(3), of(5)}} {
		w := must(t, l...)
		orders(l, 0, func(other [][]byte) {
			if b := must(t, other...); !bytes.Equal(b, w) {
				t.Fatalf("%d blocks in another order: %v, not %v", len(l), b, w)
			}
		})
	}
	l := blocks(api.MaxMembers)
	w := must(t, l...)
	for n := range l {
		round := append(append([][]byte{}, l[n:]...), l[:n]...)
		want(t, "from the middle on", w, round...)
		back := make([][]byte, len(l))
		for i := range round {
			back[len(l)-1-i] = round[i]
		}
		want(t, "from behind", w, back...)
	}
}

// P3.3: each of some blocks is the fold of all others and the fold of all.
func TestEachOfOthers(t *testing.T) {
	for k, l := range lists() {
		all := must(t, l...)
		for i, block := range l {
			others := append([][]byte{}, l...)
			others[i] = all
			w := block
			if len(block) == 0 {
				w = of(0)
			}
			if b := must(t, others...); !bytes.Equal(b, w) {
				t.Errorf("list %d, block %d: %v, not %v", k, i, b, w)
			}
		}
	}
}

// P3.3: a fold of folds is the fold of all their blocks, in however many parts.
func TestFoldOfFolds(t *testing.T) {
	for k, l := range lists() {
		all := must(t, l...)
		one := of(0)
		for i := range l {
			one = must(t, one, l[i])
		}
		if !bytes.Equal(one, all) {
			t.Errorf("list %d, one by one: %v, not %v", k, one, all)
		}
		for i := range len(l) + 1 {
			for j := i; j <= len(l); j++ {
				parts := must(t, must(t, l[:i]...), must(t, l[i:j]...), must(t, l[j:]...))
				if !bytes.Equal(parts, all) {
					t.Fatalf("list %d, parted at %d and %d: %v, not %v", k, i, j, parts, all)
				}
			}
		}
	}
}

// P3.3: one block twice is nothing, also with others, side by side or not.
func TestTwice(t *testing.T) {
	for _, block := range [][]byte{nil, {}, of(0), of(255), mixed(3, api.Size)} {
		want(t, "twice", of(0), block, block)
		want(t, "twice, in other memory", of(0), block, bytes.Clone(block))
		for n := range api.MaxMembers - 1 {
			others := blocks(n)
			w := must(t, others...)
			want(t, "ahead of others", w, append([][]byte{block, block}, others...)...)
			want(t, "around others", w, append(append([][]byte{block}, others...), block)...)
		}
	}
	x, many := mixed(4, api.Size), [][]byte{}
	for n := range api.MaxMembers + 1 {
		if n%2 == 0 {
			want(t, "an even number of times", of(0), many...)
		} else {
			want(t, "an odd number of times", x, many...)
		}
		many = append(many, x)
	}
}
