package super

import (
	"bytes"
	"math"
	"testing"

	"freeboard/api"
	"freeboard/label"
)

// chapter is the super of the chapter's examples.
func chapter() api.Super {
	return api.Super{Id: 7, Age: 1, Seq: 300, Tail: 5}
}

// great is a super all of whose numbers are as great as they may be.
func great() api.Super {
	return api.Super{Id: math.MaxUint32, Age: 1 << 31, Seq: 1 << 31, Tail: 254}
}

// supers are some that may be, small, great, and between.
func supers() []api.Super {
	return []api.Super{
		chapter(),
		great(),
		{Age: 1, Seq: 1},
		{Id: 0x04030201, Age: 0x08070605, Seq: 0x0c0b0a09, Tail: 13},
		{Id: 0x80000000, Age: 0x7fffffff, Seq: 0x80000000, Tail: 128},
		{Id: 0xff00ff00, Age: 0x00ff00ff, Seq: 0x01000100, Tail: 253},
		{Id: 1, Age: 0x00010000, Seq: 255, Tail: 1},
		{Id: 76, Age: 83, Seq: 78, Tail: 127},
	}
}

// counts32 are numbers about the edges of what an age, or a deal's number, may be, and of its bytes.
func counts32() []uint32 {
	return []uint32{
		0, 1, 2, 127, 128, 255, 256, 257, 1<<16 - 1, 1 << 16, 1<<24 - 1, 1 << 24, 1<<31 - 2, 1<<31 - 1, 1 << 31,
		1<<31 + 1, 1<<31 + 2, 0xc0000000, 0xff000000, math.MaxUint32 - 1, math.MaxUint32,
	}
}

// wild are tails that may not be, some of which look well once they are cut to a byte, or wrap round.
func wild() []int {
	return []int{
		math.MinInt, math.MinInt + 1, math.MinInt / 2, math.MinInt32, -1 << 57, -1<<32 + 5, -257, -256, -255, -254, -128, -2, -1,
		255, 256, 257, 261, 510, 511, 512, 1 << 16, 1<<31 + 1, 1<<32 + 1, 1<<32 + 254, 1 << 56, 1 << 62, math.MaxInt / 2, math.MaxInt - 1, math.MaxInt,
	}
}

// may tells by the chapter's words whether a super may be.
func may(s api.Super) bool {
	if s.Age == 0 || s.Age > 2147483648 || s.Seq == 0 || s.Seq > 2147483648 {
		return false
	}
	for tail := 0; tail <= 254; tail++ {
		if tail == s.Tail {
			return true
		}
	}
	return false
}

// sum is the sum of bytes, reckoned bit by bit.
func sum(b []byte) uint32 {
	s := ^uint32(0)
	for _, x := range b {
		s ^= uint32(x)
		for range 8 {
			odd := s%2 == 1
			s /= 2
			if odd {
				s ^= 0x82f63b78
			}
		}
	}
	return ^s
}

// summed is a block with the right sum at its end.
func summed(b []byte) []byte {
	b = bytes.Clone(b)
	s := sum(b[:124])
	for i := range 4 {
		b[124+i] = byte(s >> (8 * i))
	}
	return b
}

// drawn is the block of a super that may be, byte by byte as the chapter lists them.
func drawn(s api.Super) []byte {
	b := make([]byte, 128)
	b[0] = 'S'
	for i := range 4 {
		b[1+i] = byte(s.Id >> (8 * i))
		b[5+i] = byte(s.Age >> (8 * i))
		b[9+i] = byte(s.Seq >> (8 * i))
	}
	b[13] = byte(s.Tail)
	return summed(b)
}

// seen is the super that the bytes of a block tell, whether it may be or not.
func seen(b []byte) api.Super {
	s := api.Super{Tail: int(b[13])}
	for i := 3; i >= 0; i-- {
		s.Id = s.Id*256 + uint32(b[1+i])
		s.Age = s.Age*256 + uint32(b[5+i])
		s.Seq = s.Seq*256 + uint32(b[9+i])
	}
	return s
}

// wantBad asks Check and Write of a super that may not be.
func wantBad(t *testing.T, s api.Super) {
	t.Helper()
	if e := Check(s); e != 8 {
		t.Fatalf("Check(%+v): error %d, not 8", s, e)
	}
	if b, e := Write(s); e != 8 || b != nil {
		t.Fatalf("Write(%+v): % x, error %d, not 8", s, b, e)
	}
}

// wantGood asks all calls of a super that may be.
func wantGood(t *testing.T, s api.Super) {
	t.Helper()
	if e := Check(s); e != 0 {
		t.Fatalf("Check(%+v): error %d", s, e)
	}
	b, e := Write(s)
	if e != 0 || !bytes.Equal(b, drawn(s)) {
		t.Fatalf("Write(%+v): % x, error %d", s, b, e)
	}
	if r, e := Read(b); e != 0 || r != s {
		t.Fatalf("Read of what Write(%+v) answers: %+v, error %d", s, r, e)
	}
}

// want asks what the chapter's words tell of a super.
func want(t *testing.T, s api.Super) {
	t.Helper()
	if may(s) {
		wantGood(t, s)
	} else {
		wantBad(t, s)
	}
}

// wantNone asks Read of what is the block of no super.
func wantNone(t *testing.T, b []byte, want api.Errno) {
	t.Helper()
	if s, e := Read(b); e != want || s != (api.Super{}) {
		t.Fatalf("Read(% x): %+v, error %d, not %d", b, s, e, want)
	}
}

// wantSeen asks Read for the super that a block tells, if it may be and is written so, and else for none.
func wantSeen(t *testing.T, b []byte) {
	t.Helper()
	s := seen(b)
	if !may(s) || !bytes.Equal(drawn(s), b) {
		wantNone(t, b, api.ErrSum)
		return
	}
	if r, e := Read(b); e != api.OK || r != s {
		t.Fatalf("Read(% x): %+v, error %d", b, r, e)
	}
}

// P10.1 and P10.2: the chapter's examples.
func TestExamples(t *testing.T) {
	b, e := Write(chapter())
	if e != api.OK || len(b) != api.Size || !bytes.Equal(b[:14], []byte{83, 7, 0, 0, 0, 1, 0, 0, 0, 44, 1, 0, 0, 5}) {
		t.Fatalf("Write: % x, error %d", b, e)
	}
	if s, e := Read(b); e != api.OK || s != chapter() {
		t.Errorf("Read: %+v, error %d", s, e)
	}
	wantNone(t, nil, api.ErrSum)
	wantNone(t, b[:1], api.ErrText)
	s := chapter()
	s.Age = 0
	wantBad(t, s)
	s = chapter()
	s.Seq = 1<<31 + 1
	wantBad(t, s)
	s = chapter()
	s.Tail = 255
	wantBad(t, s)
}

// P10.1: every Id, Age and Seq of those about the edges, with each other.
func TestIdAgeAndSeq(t *testing.T) {
	for _, id := range counts32() {
		for _, age := range counts32() {
			for _, seq := range counts32() {
				want(t, api.Super{Id: id, Age: age, Seq: seq, Tail: 9})
			}
		}
	}
}

// P10.1: each Tail about a byte's numbers, of each super, and wild ones.
func TestTail(t *testing.T) {
	for _, s := range supers() {
		wantGood(t, s)
		for tail := -300; tail <= 600; tail++ {
			s.Tail = tail
			want(t, s)
		}
		for _, tail := range wild() {
			s.Tail = tail
			wantBad(t, s)
		}
	}
}

// P10.1: more than one number that may not be; none at all.
func TestManyWrong(t *testing.T) {
	for _, tail := range wild() {
		for _, age := range counts32() {
			for _, seq := range counts32() {
				wantBad(t, api.Super{Id: 7, Age: age, Seq: seq, Tail: tail})
			}
		}
	}
	wantBad(t, api.Super{})
	wantBad(t, api.Super{Id: 7})
}

// P10.2: of all lengths, 128 and none are a block's; what is not is told ahead of what it would tell.
func TestLengths(t *testing.T) {
	b := drawn(chapter())
	for n := range 400 {
		long := bytes.Repeat(b, 4)[:n]
		switch n {
		case 0:
			wantNone(t, long, api.ErrSum)
		case 128:
			if s, e := Read(long); e != api.OK || s != chapter() {
				t.Errorf("Read: %+v, error %d", s, e)
			}
		default:
			wantNone(t, long, api.ErrText)
			wantNone(t, make([]byte, n), api.ErrText)
		}
	}
	wantNone(t, make([]byte, 1<<16), api.ErrText)
}

// P10.2: none, however it is empty, and noughts, also with their right sum, are the block of no super.
func TestNoughts(t *testing.T) {
	for _, b := range [][]byte{nil, {}, drawn(chapter())[:0], make([]byte, 128), summed(make([]byte, 128)), bytes.Repeat([]byte{255}, 128), summed(bytes.Repeat([]byte{255}, 128))} {
		wantNone(t, b, api.ErrSum)
	}
}

// P10.2: with the right sum behind them, each byte with each value is read if the super may be that it tells, and is written so.
func TestEachByteSummed(t *testing.T) {
	for _, s := range supers() {
		for at := range 124 {
			for x := range 256 {
				b := drawn(s)
				b[at] = byte(x)
				wantSeen(t, summed(b))
			}
		}
	}
}

// P10.2: what a summed block tells otherwise than any super is told as ErrSum: another mark, an age or a deal's number beyond its bounds, a tail behind the ring, bytes that are no noughts.
func TestSummedWrongly(t *testing.T) {
	for _, x := range []struct {
		at   int
		byte byte
	}{{0, 0}, {0, 76}, {0, 78}, {0, 82}, {0, 84}, {0, 211}, {5, 0}, {8, 128}, {8, 255}, {12, 128}, {12, 255}, {13, 255}, {14, 1}, {14, 255}, {15, 1}, {64, 128}, {122, 1}, {123, 1}, {123, 128}} {
		b := drawn(chapter())
		b[x.at] = x.byte
		wantNone(t, summed(b), api.ErrSum)
	}
	for _, s := range []api.Super{{Age: 0, Seq: 1}, {Age: 1, Seq: 0}, {Age: 1<<31 + 1, Seq: 1}, {Age: 1, Seq: 1<<31 + 1}, {Age: 1, Seq: 1, Tail: 255}} {
		wantNone(t, drawn(s), api.ErrSum)
	}
}

// P10.2: a sum that is another order's, another start's, or of more or fewer bytes is none.
func TestOtherSums(t *testing.T) {
	b := drawn(chapter())
	turned := bytes.Clone(b)
	turned[124], turned[125], turned[126], turned[127] = b[127], b[126], b[125], b[124]
	wantNone(t, turned, api.ErrSum)
	s := sum(b[:124])
	for _, other := range []uint32{^s, s + 1, 0, sum(b[:0]), sum(b[:14]), sum(b[:123]), sum(b)} {
		c := bytes.Clone(b)
		for i := range 4 {
			c[124+i] = byte(other >> (8 * i))
		}
		wantNone(t, c, api.ErrSum)
	}
}

// P10.3: what is handed in is only read, and what stands behind it, too.
func TestOnlyRead(t *testing.T) {
	behind := append(drawn(chapter()), drawn(great())...)
	was := bytes.Clone(behind)
	if s, e := Read(behind[:128]); e != api.OK || s != chapter() {
		t.Errorf("Read: %+v, error %d", s, e)
	}
	wantNone(t, behind[:0], api.ErrSum)
	wantNone(t, behind[:127], api.ErrText)
	wantNone(t, behind[1:129], api.ErrSum)
	if !bytes.Equal(behind, was) {
		t.Error("what is handed in is changed")
	}
}

// P10.3: what is answered is new memory: what is done to it, or behind it, is seen in no other answer.
func TestNewMemory(t *testing.T) {
	first, _ := Write(chapter())
	second, _ := Write(chapter())
	for i := range first {
		first[i] = 99
	}
	_ = append(first[:cap(first)], 99)
	third, e := Write(chapter())
	if e != api.OK || !bytes.Equal(second, drawn(chapter())) || !bytes.Equal(third, second) {
		t.Error("what is done to an answer is seen in another one")
	}
}

// P10.4: what is read is written as just these bytes.
func TestReadIsWritten(t *testing.T) {
	for _, s := range supers() {
		b := drawn(s)
		r, e := Read(b)
		if e != api.OK || r != s {
			t.Fatalf("Read(% x): %+v, error %d", b, r, e)
		}
		if w, e := Write(r); e != api.OK || !bytes.Equal(w, b) {
			t.Fatalf("Write(%+v): % x, error %d", r, w, e)
		}
	}
}

// P10.4: supers that are unlike have unlike blocks; none has another one's.
func TestUnlike(t *testing.T) {
	has := map[string]api.Super{}
	gather := func(s api.Super) {
		b, e := Write(s)
		if e != api.OK {
			return
		}
		if other, ok := has[string(b)]; ok && other != s {
			t.Fatalf("%+v and %+v have one block", s, other)
		}
		has[string(b)] = s
	}
	for _, s := range supers() {
		gather(s)
		for bit := range 32 {
			m := s
			m.Id ^= 1 << bit
			gather(m)
			m = s
			m.Age ^= 1 << bit
			gather(m)
			m = s
			m.Seq ^= 1 << bit
			gather(m)
		}
		for tail := range 255 {
			m := s
			m.Tail = tail
			gather(m)
		}
		gather(api.Super{Id: s.Age, Age: s.Seq, Seq: s.Age, Tail: s.Tail})
	}
}

// P10.4: a block one byte of which is another one is none, whatever it is.
func TestOneByteTurned(t *testing.T) {
	for _, s := range supers() {
		b := drawn(s)
		for at := range b {
			for x := 1; x < 256; x++ {
				b[at] ^= byte(x)
				wantNone(t, b, api.ErrSum)
				b[at] ^= byte(x)
			}
		}
	}
}

// P10.4: nor is one up to four bytes of which that stand side by side are others: all ahead of the sum, or all its own.
func TestFourBytesTurned(t *testing.T) {
	for _, s := range supers() {
		b := drawn(s)
		x := uint32(2463534242)
		for at := range b {
			for n := 2; n <= 4; n++ {
				if at < 124 && at+n > 124 || at+n > 128 {
					continue
				}
				for range 40 {
					// So many bits go through all numbers but nought before they come back.
					x ^= x << 13
					x ^= x >> 17
					x ^= x << 5
					c := bytes.Clone(b)
					for i := range n {
						c[at+i] ^= byte(x >> (8 * i))
					}
					if !bytes.Equal(c, b) {
						wantNone(t, c, api.ErrSum)
					}
				}
			}
		}
	}
}

// P10.4: no super's block is a label's, nor a label's one a super's, though it may be by all but its mark.
func TestNoLabel(t *testing.T) {
	for _, s := range supers() {
		b, _ := Write(s)
		if l, e := label.Read(b); e != api.ErrSum || l != (api.Label{}) {
			t.Errorf("label.Read of the block of %+v: %+v, error %d", s, l, e)
		}
	}
	for _, l := range []api.Label{
		{Id: 7, Events: 2, Members: 3, Chunk: 1, Rows: 1, Log: 12, Me: 1, Lost: api.NoMember, Open: true},
		{Id: math.MaxUint32, Events: 1 << 31, Members: 16, Chunk: 8, Rows: 8, Log: 255, Me: 15, Lost: 15, Done: 64, Open: true},
		{Events: 1, Members: 3, Chunk: 1, Rows: 1, Log: 12, Lost: 0},
	} {
		b, e := label.Write(l)
		if e != api.OK {
			t.Fatalf("label.Write(%+v): error %d", l, e)
		}
		wantNone(t, b, api.ErrSum)
		b[0] = 83
		wantSeen(t, summed(b))
	}
}

// P10.1: a block under way answers itself, and its first error stays, with no bytes.
func TestFirstErrorStays(t *testing.T) {
	b := &block{}
	if b.put(0, 1, 83) != b || b.sum() != b || b.e != api.OK || len(b.bytes) != 128 || b.bytes[0] != 83 {
		t.Errorf("put: % x, error %d", b.bytes, b.e)
	}
	for _, b := range []*block{
		(&block{}).put(0, 1, 256).put(0, 1, 1).sum(),
		(&block{}).put(0, 1, 1).put(126, 4, 1).put(0, 1, 1).sum(),
	} {
		if b.e != api.ErrArg || b.bytes != nil {
			t.Errorf("put: % x, error %d, not %d", b.bytes, b.e, api.ErrArg)
		}
	}
	b = &block{e: api.ErrBad}
	if b.put(0, 1, 256) != b || b.sum() != b || b.e != api.ErrBad || b.bytes != nil {
		t.Errorf("put: % x, error %d, not %d", b.bytes, b.e, api.ErrBad)
	}
}

// P10.1 and P10.2: a call is answered the same again, whatever was asked between.
func TestNothingIsKept(t *testing.T) {
	for range 100 {
		for _, s := range supers() {
			wantGood(t, s)
			wantNone(t, nil, api.ErrSum)
			wantNone(t, []byte{83}, api.ErrText)
			s.Tail = -1
			wantBad(t, s)
		}
	}
}
