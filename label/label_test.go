package label

import (
	"bytes"
	"math"
	"testing"

	"freeboard/api"
)

// chapter is the label of the chapter's examples.
func chapter() api.Label {
	return api.Label{Id: 7, Events: 2, Members: 3, Chunk: 1, Rows: 1, Log: 12, Me: 1, Lost: api.NoMember, Open: true}
}

// great is a label all of whose numbers are as great as they may be.
func great() api.Label {
	return api.Label{Id: math.MaxUint32, Events: 1 << 31, Members: 16, Chunk: 8, Rows: 8, Log: 255, Me: 15, Lost: 15, Done: 64, Open: true}
}

// labels are some that may be, small, great, and between.
func labels() []api.Label {
	return []api.Label{
		chapter(),
		great(),
		{Members: 3, Chunk: 1, Rows: 1, Log: 12, Lost: api.NoMember},
		{Members: 3, Chunk: 1, Rows: 1, Log: 12},
		{Id: 1, Events: 1, Members: 4, Chunk: 2, Rows: 1, Log: 15, Me: 3, Lost: 3, Done: 1},
		{Id: 0x04030201, Events: 0x05060708, Members: 5, Chunk: 2, Rows: 3, Log: 99, Me: 4, Lost: 2, Done: 6, Open: true},
		{Id: 0xff00ff00, Events: 0x00ff00ff, Members: 16, Chunk: 1, Rows: 8, Log: 51, Me: 0, Lost: 15, Done: 0, Open: true},
		{Id: 128, Events: 256, Members: 9, Chunk: 8, Rows: 1, Log: 254, Me: 8, Lost: api.NoMember},
	}
}

// wild are numbers that no field may have, some of which look well once they are cut to a byte, or wrap round.
func wild() []int {
	return []int{
		math.MinInt, math.MinInt + 1, math.MinInt + 3, math.MinInt / 2, math.MinInt32, -1 << 57, -257, -256, -255, -253, -244, -2,
		256, 257, 259, 268, 511, 1<<16 + 1, 1<<31 + 1, 1<<32 + 1, 1<<32 + 3, 1<<56 + 1, 1 << 62, math.MaxInt / 2, math.MaxInt - 1, math.MaxInt,
	}
}

// ints are the fields that are ints.
func ints(l *api.Label) map[string]*int {
	return map[string]*int{"Members": &l.Members, "Chunk": &l.Chunk, "Rows": &l.Rows, "Log": &l.Log, "Me": &l.Me, "Lost": &l.Lost, "Done": &l.Done}
}

// may tells by the chapter's words whether a label may be: it looks for each number among those that are allowed, one by one.
func may(l api.Label) bool {
	among := func(n, from, to int) bool {
		for i := from; i <= to; i++ {
			if i == n {
				return true
			}
		}
		return false
	}
	if !among(l.Members, 3, 16) || !among(l.Chunk, 1, 8) || !among(l.Rows, 1, 8) {
		return false
	}
	// Of the ring: what each of two heads needs, and one need more.
	if !among(l.Log, 3*(l.Members+1), 255) || l.Events > 2147483648 || !among(l.Me, 0, l.Members-1) {
		return false
	}
	if l.Lost == -1 {
		return l.Done == 0
	}
	return among(l.Lost, 0, l.Members-1) && among(l.Done, 0, l.Chunk*l.Rows)
}

// sum is the sum of bytes, reckoned bit by bit.
func sum(b []byte) uint32 {
	s := ^uint32(0)
	for _, x := range b {
		s ^= uint32(x)
		for range 8 {
			odd := s%2 == 1
			s /= 2
			if odd {
				s ^= 0x82f63b78
			}
		}
	}
	return ^s
}

// drawn is the block of a label that may be, byte by byte as the chapter lists them.
func drawn(l api.Label) []byte {
	b := make([]byte, 128)
	b[0] = 'L'
	for i := range 4 {
		b[1+i] = byte(l.Id >> (8 * i))
		b[5+i] = byte(l.Events >> (8 * i))
	}
	for i, n := range []int{l.Members, l.Chunk, l.Rows, l.Log, l.Me, l.Lost, l.Done} {
		b[9+i] = byte(n)
	}
	if l.Lost == -1 {
		b[14] = 255
	}
	if l.Open {
		b[16]++
	}
	return summed(b)
}

// summed is a block with the right sum at its end.
func summed(b []byte) []byte {
	b = bytes.Clone(b)
	s := sum(b[:124])
	for i := range 4 {
		b[124+i] = byte(s >> (8 * i))
	}
	return b
}

// seen is the label that the bytes of a block tell, whether it may be or not.
func seen(b []byte) api.Label {
	l := api.Label{Members: int(b[9]), Chunk: int(b[10]), Rows: int(b[11]), Log: int(b[12]), Me: int(b[13]), Lost: int(b[14]), Done: int(b[15]), Open: b[16] == 1}
	for i := 3; i >= 0; i-- {
		l.Id = l.Id*256 + uint32(b[1+i])
		l.Events = l.Events*256 + uint32(b[5+i])
	}
	if l.Lost == 255 {
		l.Lost = -1
	}
	return l
}

// wantBad asks Check and Write of a label that may not be.
func wantBad(t *testing.T, l api.Label) {
	t.Helper()
	if e := Check(l); e != 8 {
		t.Fatalf("Check(%+v): error %d, not 8", l, e)
	}
	if b, e := Write(l); e != 8 || len(b) != 0 {
		t.Fatalf("Write(%+v): % x, error %d, not 8", l, b, e)
	}
}

// wantGood asks all calls of a label that may be.
func wantGood(t *testing.T, l api.Label) {
	t.Helper()
	if e := Check(l); e != 0 {
		t.Fatalf("Check(%+v): error %d", l, e)
	}
	b, e := Write(l)
	if e != 0 || !bytes.Equal(b, drawn(l)) {
		t.Fatalf("Write(%+v): % x, error %d", l, b, e)
	}
	if r, e := Read(b); e != 0 || r != l {
		t.Fatalf("Read of what Write(%+v) answers: %+v, error %d", l, r, e)
	}
}

// want asks what the chapter's words tell of a label.
func want(t *testing.T, l api.Label) {
	t.Helper()
	if may(l) {
		wantGood(t, l)
	} else {
		wantBad(t, l)
	}
}

// wantNone asks Read of what is the block of no label.
func wantNone(t *testing.T, b []byte, want api.Errno) {
	t.Helper()
	if l, e := Read(b); e != want || l != (api.Label{}) {
		t.Fatalf("Read(% x): %+v, error %d, not %d", b, l, e, want)
	}
}

// P9.1 and P9.2: the chapter's examples.
func TestExamples(t *testing.T) {
	l := chapter()
	b, e := Write(l)
	if e != api.OK || len(b) != api.Size || !bytes.Equal(b[:17], []byte{76, 7, 0, 0, 0, 2, 0, 0, 0, 3, 1, 1, 12, 1, 255, 0, 1}) {
		t.Fatalf("Write: % x, error %d", b, e)
	}
	if r, e := Read(b); e != api.OK || r != l {
		t.Errorf("Read: %+v, error %d", r, e)
	}
	wantNone(t, nil, api.ErrSum)
	wantNone(t, b[:127], api.ErrText)
	l.Me = 3
	wantBad(t, l)
	l = chapter()
	l.Done = 1
	wantBad(t, l)
	l.Lost = 1
	wantGood(t, l)
}

// P9.1: each field that is an int, with each number about a byte's, of each label; and with wild ones.
func TestFieldsOneByOne(t *testing.T) {
	for _, l := range labels() {
		wantGood(t, l)
		for name := range ints(&l) {
			for n := -20; n <= 300; n++ {
				m := l
				*ints(&m)[name] = n
				want(t, m)
			}
			for _, n := range wild() {
				m := l
				*ints(&m)[name] = n
				wantBad(t, m)
			}
		}
	}
}

// P9.1: two wild numbers at once, which may wrap round to what may be.
func TestWildNumbers(t *testing.T) {
	for _, l := range labels() {
		for one := range ints(&l) {
			for other := range ints(&l) {
				for _, n := range wild() {
					for _, k := range wild() {
						m := l
						*ints(&m)[one] = n
						*ints(&m)[other] = k
						wantBad(t, m)
					}
				}
			}
		}
	}
	for _, n := range wild() {
		wantBad(t, api.Label{Members: n, Chunk: n, Rows: n, Log: n, Me: n, Lost: n, Done: n})
	}
	wantBad(t, api.Label{})
}

// P9.1: the ring has room for two heads and one stripe more, whatever members there are.
func TestRing(t *testing.T) {
	for members := 2; members <= 17; members++ {
		for log := -1; log <= 260; log++ {
			l := api.Label{Members: members, Chunk: 3, Rows: 2, Log: log, Lost: api.NoMember}
			want(t, l)
		}
	}
	wantBad(t, api.Label{Members: 16, Chunk: 1, Rows: 1, Log: 50, Lost: api.NoMember})
	wantGood(t, api.Label{Members: 16, Chunk: 1, Rows: 1, Log: 51, Lost: api.NoMember})
}

// P9.1: any Id may be; Events is at most 2^31.
func TestIdAndEvents(t *testing.T) {
	numbers := []uint32{0, 1, 2, 255, 256, 257, 1 << 16, 1 << 24, 1<<31 - 1, 1 << 31, 1<<31 + 1, 0xc0000000, math.MaxUint32 - 1, math.MaxUint32}
	for _, l := range labels() {
		for _, id := range numbers {
			for _, events := range numbers {
				l.Id, l.Events = id, events
				if events <= 1<<31 {
					wantGood(t, l)
				} else {
					wantBad(t, l)
				}
			}
		}
	}
}

// P9.1: who is lost, how far a spare is made, and who tells it: all of some arrays, and what is beside them.
func TestLostAndDone(t *testing.T) {
	for _, l := range labels() {
		for me := -2; me <= l.Members+1; me++ {
			for lost := -3; lost <= l.Members+1; lost++ {
				for done := -2; done <= l.Chunk*l.Rows+2; done++ {
					l := l
					l.Me, l.Lost, l.Done = me, lost, done
					want(t, l)
				}
			}
		}
	}
	l := great()
	for _, n := range []int{254, 255, 256} {
		l.Lost, l.Done = n, 0
		wantBad(t, l)
	}
}

// P9.1: as much is done as there are stripes, whatever chunks and rows there are.
func TestDoneByStripes(t *testing.T) {
	for chunk := 0; chunk <= 9; chunk++ {
		for rows := 0; rows <= 9; rows++ {
			for done := -1; done <= 90; done++ {
				want(t, api.Label{Id: 5, Members: 6, Chunk: chunk, Rows: rows, Log: 30, Me: 2, Lost: 2, Done: done})
			}
		}
	}
}

// P9.2: of all lengths, 128 and none are a block's; what is not is told ahead of what it would tell.
func TestLengths(t *testing.T) {
	b := drawn(chapter())
	for n := range 400 {
		long := bytes.Repeat(b, 4)[:n]
		switch n {
		case 0:
			wantNone(t, long, api.ErrSum)
		case 128:
			if l, e := Read(long); e != api.OK || l != chapter() {
				t.Errorf("Read: %+v, error %d", l, e)
			}
		default:
			wantNone(t, long, api.ErrText)
			wantNone(t, make([]byte, n), api.ErrText)
		}
	}
	wantNone(t, make([]byte, 1<<16), api.ErrText)
}

// P9.2: none, however it is empty, and noughts, also with their right sum, are the block of no label.
func TestNoughts(t *testing.T) {
	for _, b := range [][]byte{nil, {}, drawn(chapter())[:0], make([]byte, 128), summed(make([]byte, 128)), bytes.Repeat([]byte{255}, 128), summed(bytes.Repeat([]byte{255}, 128))} {
		wantNone(t, b, api.ErrSum)
	}
}

// P9.2: with the right sum behind them, each byte with each value is read if the label may be that it tells, and is written so.
func TestEachByteSummed(t *testing.T) {
	for _, l := range labels() {
		for at := range 124 {
			for x := range 256 {
				b := drawn(l)
				b[at] = byte(x)
				b = summed(b)
				m := seen(b)
				if !may(m) || !bytes.Equal(drawn(m), b) {
					wantNone(t, b, api.ErrSum)
					continue
				}
				if r, e := Read(b); e != api.OK || r != m {
					t.Fatalf("Read(% x): %+v, error %d", b, r, e)
				}
			}
		}
	}
}

// P9.2: what a summed block tells otherwise than any label is told as ErrSum: another mark, Open neither 0 nor 1, bytes that are no noughts, a member that there is not.
func TestSummedWrongly(t *testing.T) {
	for _, x := range []struct {
		at   int
		byte byte
	}{{0, 0}, {0, 75}, {0, 77}, {0, 78}, {0, 83}, {8, 128}, {9, 2}, {10, 0}, {11, 9}, {12, 11}, {13, 3}, {13, 255}, {14, 3}, {14, 254}, {15, 1}, {16, 2}, {16, 3}, {16, 129}, {16, 255}, {17, 1}, {18, 1}, {64, 128}, {122, 1}, {123, 1}} {
		b := drawn(chapter())
		b[x.at] = x.byte
		wantNone(t, summed(b), api.ErrSum)
	}
}

// P9.2: a sum that is another order's, another start's, or of more or fewer bytes is none.
func TestOtherSums(t *testing.T) {
	b := drawn(chapter())
	turned := bytes.Clone(b)
	turned[124], turned[125], turned[126], turned[127] = b[127], b[126], b[125], b[124]
	wantNone(t, turned, api.ErrSum)
	for _, n := range []int{0, 17, 123} {
		s := sum(b[:n])
		other := bytes.Clone(b)
		for i := range 4 {
			other[124+i] = byte(s >> (8 * i))
		}
		wantNone(t, other, api.ErrSum)
	}
}

// P9.3: what is handed in is only read, and what stands behind it, too.
func TestOnlyRead(t *testing.T) {
	behind := append(drawn(chapter()), drawn(great())...)
	was := bytes.Clone(behind)
	if l, e := Read(behind[:128]); e != api.OK || l != chapter() {
		t.Errorf("Read: %+v, error %d", l, e)
	}
	wantNone(t, behind[:0], api.ErrSum)
	wantNone(t, behind[:127], api.ErrText)
	wantNone(t, behind[1:129], api.ErrSum)
	if !bytes.Equal(behind, was) {
		t.Error("what is handed in is changed")
	}
}

// P9.3: what is answered is new memory: what is done to it, or behind it, is seen in no other answer.
func TestNewMemory(t *testing.T) {
	first, _ := Write(chapter())
	second, _ := Write(chapter())
	for i := range first {
		first[i] = 99
	}
	_ = append(first[:cap(first)], 99)
	third, e := Write(chapter())
	if e != api.OK || !bytes.Equal(second, drawn(chapter())) || !bytes.Equal(third, second) {
		t.Error("what is done to an answer is seen in another one")
	}
}

// P9.4: what is read is written as just these bytes.
func TestReadIsWritten(t *testing.T) {
	for _, l := range labels() {
		b := drawn(l)
		r, e := Read(b)
		if e != api.OK || r != l {
			t.Fatalf("Read(% x): %+v, error %d", b, r, e)
		}
		if w, e := Write(r); e != api.OK || !bytes.Equal(w, b) {
			t.Fatalf("Write(%+v): % x, error %d", r, w, e)
		}
	}
}

// P9.4: labels that are unlike in one number alone have unlike blocks; none has another one's.
func TestUnlike(t *testing.T) {
	has := map[string]api.Label{}
	gather := func(l api.Label) {
		b, e := Write(l)
		if e != api.OK {
			return
		}
		if other, ok := has[string(b)]; ok && other != l {
			t.Fatalf("%+v and %+v have one block", l, other)
		}
		has[string(b)] = l
	}
	for _, l := range labels() {
		gather(l)
		for bit := range 32 {
			m := l
			m.Id ^= 1 << bit
			gather(m)
			m = l
			m.Events ^= 1 << bit
			gather(m)
		}
		m := l
		m.Open = !m.Open
		gather(m)
		for name := range ints(&l) {
			for n := -1; n < 256; n++ {
				m := l
				*ints(&m)[name] = n
				gather(m)
			}
		}
	}
}

// P9.4: a block one byte of which is another one is none, whatever it is.
func TestOneByteTurned(t *testing.T) {
	for _, l := range labels() {
		b := drawn(l)
		for at := range b {
			for x := 1; x < 256; x++ {
				b[at] ^= byte(x)
				wantNone(t, b, api.ErrSum)
				b[at] ^= byte(x)
			}
		}
	}
}

// P9.4: nor is one up to four bytes of which that stand side by side are others: all ahead of the sum, or all its own.
func TestFourBytesTurned(t *testing.T) {
	for _, l := range labels() {
		b := drawn(l)
		x := uint32(2463534242)
		for at := range b {
			for n := 2; n <= 4; n++ {
				if at < 124 && at+n > 124 || at+n > 128 {
					continue
				}
				for range 40 {
					// So many bits go through all numbers but nought before they come back.
					x ^= x << 13
					x ^= x >> 17
					x ^= x << 5
					c := bytes.Clone(b)
					for i := range n {
						c[at+i] ^= byte(x >> (8 * i))
					}
					if !bytes.Equal(c, b) {
						wantNone(t, c, api.ErrSum)
					}
				}
			}
		}
	}
}

// P9.1 and P9.2: a call is answered the same again, whatever was asked between.
func TestNothingIsKept(t *testing.T) {
	for range 3 {
		for _, l := range labels() {
			wantGood(t, l)
			wantNone(t, nil, api.ErrSum)
			wantNone(t, []byte{76}, api.ErrText)
			l.Me = -1
			wantBad(t, l)
		}
	}
}
