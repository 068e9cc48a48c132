package note

import (
	"bytes"
	"math"
	"slices"
	"testing"

	"freeboard/api"
	"freeboard/label"
	"freeboard/super"
)

// chapter is the note of the chapter's examples.
func chapter() api.Note {
	return api.Note{Id: 7, Age: 1, Seq: 2, Stripe: 3, Records: []api.Record{{Slot: 0, Bare: true, Sum: 5}, {Slot: 255, Sum: 256}}}
}

// of is a note with records of these slots, some of them bare, whose sums are unlike.
func of(slots ...uint8) api.Note {
	n := api.Note{Id: 0x04030201, Age: 0x08070605, Seq: 0x0c0b0a09, Stripe: 13}
	for i, s := range slots {
		n.Records = append(n.Records, api.Record{Slot: s, Bare: i%3 == 1, Sum: 0x9e3779b9 * uint32(i+1)})
	}
	return n
}

// great is a note all of whose numbers are as great as they may be, with as many records as there may be.
func great() api.Note {
	n := api.Note{Id: math.MaxUint32, Age: 1 << 31, Seq: 1 << 31, Stripe: 63}
	for i := range 16 {
		n.Records = append(n.Records, api.Record{Slot: uint8(i), Bare: true, Sum: math.MaxUint32})
	}
	n.Records[15].Slot = 255
	return n
}

// notes are some that may be, small, great, and between.
func notes() []api.Note {
	return []api.Note{
		chapter(),
		great(),
		{Age: 1, Seq: 1, Records: []api.Record{{}}},
		{Id: 78, Age: 83, Seq: 76, Stripe: 62, Records: []api.Record{{Slot: 14, Sum: 1 << 31}}},
		{Id: 1 << 31, Age: 0x7fffffff, Seq: 1 << 31, Stripe: 1, Records: []api.Record{{Slot: 14, Bare: true}, {Slot: 255, Bare: true}}},
		of(3),
		of(0, 1, 2),
		of(2, 5, 7, 11, 255),
		of(0, 1, 2, 3, 4, 5, 6, 7, 8, 9, 10, 11, 12, 13, 14),
		of(1, 2, 3, 4, 5, 6, 7, 8, 9, 10, 11, 12, 13, 14, 255),
	}
}

// counts32 are numbers about the edges of what an age, or a deal's number, may be, and of its bytes.
func counts32() []uint32 {
	return []uint32{
		0, 1, 2, 127, 128, 255, 256, 257, 1<<16 - 1, 1 << 16, 1<<24 - 1, 1 << 24, 1<<31 - 2, 1<<31 - 1, 1 << 31,
		1<<31 + 1, 1<<31 + 2, 0xc0000000, 0xff000000, math.MaxUint32 - 1, math.MaxUint32,
	}
}

// wild are stripes that may not be, some of which look well once they are cut to a byte, or wrap round.
func wild() []int {
	return []int{
		math.MinInt, math.MinInt + 1, math.MinInt / 2, math.MinInt32, -1 << 57, -1<<32 + 5, -257, -256, -255, -193, -128, -64, -2, -1,
		64, 65, 127, 128, 255, 256, 257, 261, 319, 512, 1 << 16, 1<<31 + 1, 1<<32 + 1, 1<<32 + 63, 1 << 56, 1 << 62, math.MaxInt / 2, math.MaxInt - 1, math.MaxInt,
	}
}

// mayRecords tells by the chapter's words whether a note may have these records.
func mayRecords(l []api.Record) bool {
	if len(l) == 0 || len(l) > 16 {
		return false
	}
	if end := len(l) - 1; end > 0 && l[end].Slot == 255 {
		l = l[:end]
	}
	from := 0
	for _, r := range l {
		for from < 15 && from != int(r.Slot) {
			from++
		}
		if from == 15 {
			return false
		}
		from++
	}
	return true
}

// may tells by the chapter's words whether a note may be.
func may(n api.Note) bool {
	if n.Age == 0 || n.Age > 2147483648 || n.Seq == 0 || n.Seq > 2147483648 {
		return false
	}
	for stripe := 0; stripe <= 63; stripe++ {
		if stripe == n.Stripe {
			return mayRecords(n.Records)
		}
	}
	return false
}

// same tells, field by field, whether two notes are.
func same(a, b api.Note) bool {
	if a.Id != b.Id || a.Age != b.Age || a.Seq != b.Seq || a.Stripe != b.Stripe || len(a.Records) != len(b.Records) {
		return false
	}
	for i, r := range a.Records {
		if r.Slot != b.Records[i].Slot || r.Bare != b.Records[i].Bare || r.Sum != b.Records[i].Sum {
			return false
		}
	}
	return true
}

// twin is a note with records of its own.
func twin(n api.Note) api.Note {
	n.Records = slices.Clone(n.Records)
	return n
}

// zero tells whether nothing is in a note, as beside an error.
func zero(n api.Note) bool {
	return same(n, api.Note{}) && n.Records == nil
}

// sum is the sum of bytes, reckoned bit by bit.
func sum(b []byte) uint32 {
	s := ^uint32(0)
	for _, x := range b {
		s ^= uint32(x)
		for range 8 {
			odd := s%2 == 1
			s /= 2
			if odd {
				s ^= 0x82f63b78
			}
		}
	}
	return ^s
}

// summed is a block with the right sum at its end.
func summed(b []byte) []byte {
	b = bytes.Clone(b)
	s := sum(b[:124])
	for i := range 4 {
		b[124+i] = byte(s >> (8 * i))
	}
	return b
}

// drawn is the block of a note of at most 16 records, byte by byte as the chapter lists them.
func drawn(n api.Note) []byte {
	b := make([]byte, 128)
	b[0] = 'N'
	for i := range 4 {
		b[1+i] = byte(n.Id >> (8 * i))
		b[5+i] = byte(n.Age >> (8 * i))
		b[9+i] = byte(n.Seq >> (8 * i))
	}
	b[13] = byte(n.Stripe)
	b[14] = byte(len(n.Records))
	at := 15
	for _, r := range n.Records {
		b[at] = r.Slot
		if r.Bare {
			b[at+1] = 1
		}
		for i := range 4 {
			b[at+2+i] = byte(r.Sum >> (8 * i))
		}
		at += 6
	}
	return summed(b)
}

// seen is the note that the bytes of a block tell, whether it may be or not; of records that it tells, 16 at most.
func seen(b []byte) api.Note {
	n := api.Note{Stripe: int(b[13])}
	for i := 3; i >= 0; i-- {
		n.Id = n.Id*256 + uint32(b[1+i])
		n.Age = n.Age*256 + uint32(b[5+i])
		n.Seq = n.Seq*256 + uint32(b[9+i])
	}
	for i := 0; i < int(b[14]) && i < 16; i++ {
		l := b[15+6*i:]
		s := uint32(l[2]) + uint32(l[3])*256 + uint32(l[4])*65536 + uint32(l[5])*16777216
		n.Records = append(n.Records, api.Record{Slot: l[0], Bare: l[1] != 0, Sum: s})
	}
	return n
}

// wantBad asks Check and Write of a note that may not be.
func wantBad(t *testing.T, n api.Note) {
	t.Helper()
	if e := Check(n); e != 8 {
		t.Fatalf("Check(%+v): error %d, not 8", n, e)
	}
	if b, e := Write(n); e != 8 || b != nil {
		t.Fatalf("Write(%+v): % x, error %d, not 8", n, b, e)
	}
}

// wantGood asks all calls of a note that may be.
func wantGood(t *testing.T, n api.Note) {
	t.Helper()
	if e := Check(n); e != 0 {
		t.Fatalf("Check(%+v): error %d", n, e)
	}
	b, e := Write(n)
	if e != 0 || !bytes.Equal(b, drawn(n)) {
		t.Fatalf("Write(%+v): % x, error %d", n, b, e)
	}
	if r, e := Read(b); e != 0 || !same(r, n) {
		t.Fatalf("Read of what Write(%+v) answers: %+v, error %d", n, r, e)
	}
}

// want asks what the chapter's words tell of a note.
func want(t *testing.T, n api.Note) {
	t.Helper()
	if may(n) {
		wantGood(t, n)
	} else {
		wantBad(t, n)
	}
}

// wantNone asks Read of what is the block of no note.
func wantNone(t *testing.T, b []byte, want api.Errno) {
	t.Helper()
	if n, e := Read(b); e != want || !zero(n) {
		t.Fatalf("Read(% x): %+v, error %d, not %d", b, n, e, want)
	}
}

// wantSeen asks Read for the note that a block tells, if it may be and is written so, and else for none.
func wantSeen(t *testing.T, b []byte) {
	t.Helper()
	n := seen(b)
	if !may(n) || !bytes.Equal(drawn(n), b) {
		wantNone(t, b, api.ErrSum)
		return
	}
	if r, e := Read(b); e != api.OK || !same(r, n) {
		t.Fatalf("Read(% x): %+v, error %d", b, r, e)
	}
}

// P11.1 and P11.2: the chapter's examples.
func TestExamples(t *testing.T) {
	b, e := Write(chapter())
	if e != api.OK || len(b) != api.Size || !bytes.Equal(b[:27], []byte{78, 7, 0, 0, 0, 1, 0, 0, 0, 2, 0, 0, 0, 3, 2, 0, 1, 5, 0, 0, 0, 255, 0, 0, 1, 0, 0}) {
		t.Fatalf("Write: % x, error %d", b, e)
	}
	if n, e := Read(b); e != api.OK || !same(n, chapter()) {
		t.Errorf("Read: %+v, error %d", n, e)
	}
	wantNone(t, nil, api.ErrSum)
	wantNone(t, b[:1], api.ErrText)
	wantBad(t, of())
	wantBad(t, of(255))
	wantBad(t, of(1, 1))
	wantBad(t, of(15))
}

// P11.1: every Id, Age and Seq of those about the edges, with each other.
func TestIdAgeAndSeq(t *testing.T) {
	n := chapter()
	for _, id := range counts32() {
		for _, age := range counts32() {
			for _, seq := range counts32() {
				n.Id, n.Age, n.Seq = id, age, seq
				want(t, n)
			}
		}
	}
}

// P11.1: each Stripe about a byte's numbers, of each note, and wild ones.
func TestStripe(t *testing.T) {
	for _, n := range notes() {
		wantGood(t, n)
		for stripe := -300; stripe <= 600; stripe++ {
			n.Stripe = stripe
			want(t, n)
		}
		for _, stripe := range wild() {
			n.Stripe = stripe
			wantBad(t, n)
		}
	}
}

// P11.1: all slots that one record may have, and all that two may.
func TestOneAndTwoSlots(t *testing.T) {
	for a := range 256 {
		want(t, of(uint8(a)))
		for b := range 256 {
			want(t, of(uint8(a), uint8(b)))
		}
	}
}

// P11.1: three and four slots about the edges, in all orders.
func TestThreeAndFourSlots(t *testing.T) {
	edges := []uint8{0, 1, 2, 7, 13, 14, 15, 16, 127, 128, 254, 255}
	for _, a := range edges {
		for _, b := range edges {
			for _, c := range edges {
				want(t, of(a, b, c))
				for _, d := range edges {
					want(t, of(a, b, c, d))
				}
			}
		}
	}
}

// P11.1: whatever slots a deal has, with its parity and without.
func TestAllSlots(t *testing.T) {
	for set := range 1 << 15 {
		var slots []uint8
		for s := range 15 {
			if set>>s&1 == 1 {
				slots = append(slots, uint8(s))
			}
		}
		want(t, of(slots...))
		want(t, of(append(slots, 255)...))
	}
}

// P11.1: too many records, however they rise.
func TestManyRecords(t *testing.T) {
	all := make([]uint8, 256)
	for i := range all {
		all[i] = uint8(i)
	}
	for n := range all {
		want(t, of(all[:n+1]...))
		want(t, of(append(slices.Clone(all[:n]), 255)...))
	}
	first := slices.Concat(all[:15], []uint8{255})
	wantGood(t, of(first...))
	wantBad(t, of(slices.Concat(first, []uint8{255})...))
	wantBad(t, of(slices.Concat([]uint8{0}, first)...))
	wantBad(t, of(bytes.Repeat([]byte{3}, 1<<16)...))
	wantBad(t, of(bytes.Repeat(all, 9)...))
}

// P11.1: the parity alone, ahead of others, or twice.
func TestParityOnlyLast(t *testing.T) {
	for _, slots := range [][]uint8{{255}, {255, 0}, {255, 255}, {0, 255, 1}, {0, 255, 255}, {254}, {0, 254}, {0, 15, 255}, {15, 255}, {14, 14, 255}} {
		wantBad(t, of(slots...))
	}
	for _, slots := range [][]uint8{{0, 255}, {14, 255}, {13, 14, 255}, {0}, {14}} {
		wantGood(t, of(slots...))
	}
}

// P11.1: each sum's bit, bare or not, of each record.
func TestSumsAndBare(t *testing.T) {
	for _, n := range notes() {
		for i := range n.Records {
			for bit := range 32 {
				m := twin(n)
				m.Records[i].Sum ^= 1 << bit
				wantGood(t, m)
				m.Records[i].Bare = !m.Records[i].Bare
				wantGood(t, m)
			}
			for _, s := range counts32() {
				m := twin(n)
				m.Records[i].Sum = s
				wantGood(t, m)
			}
		}
	}
}

// P11.1: more than one number that may not be; none at all.
func TestManyWrong(t *testing.T) {
	for _, stripe := range wild() {
		for _, age := range counts32() {
			for _, seq := range counts32() {
				wantBad(t, api.Note{Id: 7, Age: age, Seq: seq, Stripe: stripe, Records: of(15, 3, 255, 0).Records})
			}
		}
	}
	wantBad(t, api.Note{})
	wantBad(t, api.Note{Id: 7, Age: 1, Seq: 1})
	wantBad(t, api.Note{Id: 7, Age: 1, Seq: 1, Records: []api.Record{}})
	wantBad(t, api.Note{Records: chapter().Records})
}

// unlike are a note, and all that is made of it by one change to one field.
func unlike(n api.Note) []api.Note {
	l := []api.Note{n}
	change := func(how func(m *api.Note)) {
		m := twin(n)
		how(&m)
		l = append(l, m)
	}
	for bit := range 32 {
		change(func(m *api.Note) { m.Id ^= 1 << bit })
		change(func(m *api.Note) { m.Age ^= 1 << bit })
		change(func(m *api.Note) { m.Seq ^= 1 << bit })
	}
	for bit := range 64 {
		change(func(m *api.Note) { m.Stripe ^= 1 << bit })
	}
	for i := range n.Records {
		for bit := range 8 {
			change(func(m *api.Note) { m.Records[i].Slot ^= 1 << bit })
		}
		for bit := range 32 {
			change(func(m *api.Note) { m.Records[i].Sum ^= 1 << bit })
		}
		change(func(m *api.Note) { m.Records[i].Bare = !m.Records[i].Bare })
	}
	for i := 1; i < len(n.Records); i++ {
		change(func(m *api.Note) { m.Records = m.Records[:i] })
		change(func(m *api.Note) { m.Records = m.Records[i:] })
		change(func(m *api.Note) { m.Records[0], m.Records[i] = m.Records[i], m.Records[0] })
	}
	change(func(m *api.Note) { m.Records = append(m.Records, api.Record{}) })
	if len(n.Records) > 0 {
		change(func(m *api.Note) { m.Records = nil })
	}
	return l
}

// P11.1: Same of notes that differ in one field alone, whether they may be or not.
func TestSame(t *testing.T) {
	for _, n := range append(notes(), api.Note{}, of(), of(255, 255, 3), of(9, 8, 7), api.Note{Stripe: math.MinInt}) {
		for i, m := range unlike(n) {
			if !Same(m, twin(m)) || !Same(m, m) {
				t.Fatalf("Same(%+v) of its twin: false", m)
			}
			if i > 0 && (Same(n, m) || Same(m, n)) {
				t.Fatalf("Same(%+v, %+v): true", n, m)
			}
		}
	}
}

// P11.1: Same of each two of the notes; empty records and none are the same.
func TestSameOfPairs(t *testing.T) {
	for i, a := range notes() {
		for j, b := range notes() {
			if Same(a, b) != (i == j) || Same(a, b) != same(a, b) {
				t.Errorf("Same(%+v, %+v): %v", a, b, i != j)
			}
		}
	}
	if !Same(api.Note{}, api.Note{Records: []api.Record{}}) || !Same(api.Note{Id: 3, Records: chapter().Records[:0]}, api.Note{Id: 3}) {
		t.Error("Same of none and empty: false")
	}
}

// P11.2: of all lengths, 128 and none are a block's; what is not is told ahead of what it would tell.
func TestLengths(t *testing.T) {
	b := drawn(chapter())
	for n := range 400 {
		long := bytes.Repeat(b, 4)[:n]
		switch n {
		case 0:
			wantNone(t, long, api.ErrSum)
		case 128:
			if r, e := Read(long); e != api.OK || !same(r, chapter()) {
				t.Errorf("Read: %+v, error %d", r, e)
			}
		default:
			wantNone(t, long, api.ErrText)
			wantNone(t, make([]byte, n), api.ErrText)
			wantNone(t, bytes.Repeat([]byte{255}, n), api.ErrText)
		}
	}
	wantNone(t, make([]byte, 1<<16), api.ErrText)
}

// P11.2: none, however it is empty, and noughts, also with their right sum, are the block of no note.
func TestNoughts(t *testing.T) {
	for _, b := range [][]byte{nil, {}, drawn(chapter())[:0], make([]byte, 128), summed(make([]byte, 128)), bytes.Repeat([]byte{255}, 128), summed(bytes.Repeat([]byte{255}, 128))} {
		wantNone(t, b, api.ErrSum)
	}
}

// P11.2: with the right sum behind them, each byte with each value is read if the note may be that it tells, and is written so.
func TestEachByteSummed(t *testing.T) {
	for _, n := range notes() {
		for at := range 124 {
			b := drawn(n)
			for x := range 256 {
				b[at] = byte(x)
				wantSeen(t, summed(b))
			}
		}
	}
}

// P11.2: what a summed block tells otherwise than any note is told as ErrSum: another mark, an age or a deal's number beyond its bounds, a stripe beyond all, too many or too few records, a bare that is neither, bytes behind the records that are no noughts.
func TestSummedWrongly(t *testing.T) {
	for _, x := range []struct {
		at   int
		byte byte
	}{
		{0, 0}, {0, 76}, {0, 77}, {0, 79}, {0, 83}, {0, 206}, {5, 0}, {8, 128}, {8, 255}, {9, 0}, {12, 128}, {12, 255}, {13, 64}, {13, 255},
		{14, 0}, {14, 1}, {14, 3}, {14, 16}, {14, 17}, {14, 18}, {14, 19}, {14, 20}, {14, 128}, {14, 255},
		{15, 15}, {15, 255}, {16, 2}, {16, 128}, {16, 255}, {21, 0}, {21, 15}, {21, 254}, {22, 2}, {22, 255},
		{27, 1}, {27, 255}, {28, 1}, {64, 128}, {111, 1}, {122, 1}, {123, 1}, {123, 128},
	} {
		b := drawn(chapter())
		b[x.at] = x.byte
		wantNone(t, summed(b), api.ErrSum)
	}
	for at := 111; at < 124; at++ {
		b := drawn(great())
		b[at] = 1
		wantNone(t, summed(b), api.ErrSum)
	}
	for _, slots := range [][]uint8{{}, {255}, {1, 1}, {2, 1}, {15}, {0, 255, 255}, {0, 255, 3}, {0, 15, 255}} {
		wantNone(t, drawn(of(slots...)), api.ErrSum)
	}
	for _, how := range []func(n *api.Note){
		func(n *api.Note) { n.Age = 0 }, func(n *api.Note) { n.Age = 1<<31 + 1 },
		func(n *api.Note) { n.Seq = 0 }, func(n *api.Note) { n.Seq = 1<<31 + 1 },
		func(n *api.Note) { n.Stripe = 64 }, func(n *api.Note) { n.Records = nil },
	} {
		n := chapter()
		how(&n)
		wantNone(t, drawn(n), api.ErrSum)
	}
}

// P11.2: however many records a summed block tells, and whatever stands there.
func TestTooManyTold(t *testing.T) {
	for many := range 256 {
		for _, x := range []byte{0, 1, 78, 255} {
			b := drawn(great())
			for at := 15; at < 124; at++ {
				if x != 1 {
					b[at] = x
				}
			}
			b[14] = byte(many)
			wantSeen(t, summed(b))
		}
	}
}

// P11.2: a sum that is another order's, another start's, or of more or fewer bytes is none.
func TestOtherSums(t *testing.T) {
	b := drawn(chapter())
	turned := bytes.Clone(b)
	turned[124], turned[125], turned[126], turned[127] = b[127], b[126], b[125], b[124]
	wantNone(t, turned, api.ErrSum)
	s := sum(b[:124])
	for _, other := range []uint32{^s, s + 1, 0, sum(b[:0]), sum(b[:15]), sum(b[:27]), sum(b[:123]), sum(b)} {
		c := bytes.Clone(b)
		for i := range 4 {
			c[124+i] = byte(other >> (8 * i))
		}
		wantNone(t, c, api.ErrSum)
	}
}

// P11.2: a label's block, and a super's, are no note's, and are not by their mark alone.
func TestNoLabelNorSuper(t *testing.T) {
	l, e := label.Write(api.Label{Id: 7, Events: 2, Members: 3, Chunk: 1, Rows: 1, Log: 12, Me: 1, Lost: api.NoMember, Open: true})
	if e != api.OK {
		t.Fatalf("label.Write: error %d", e)
	}
	s, e := super.Write(api.Super{Id: 7, Age: 1, Seq: 300, Tail: 5})
	if e != api.OK {
		t.Fatalf("super.Write: error %d", e)
	}
	for _, b := range [][]byte{l, s} {
		wantNone(t, b, api.ErrSum)
		b[0] = 78
		wantNone(t, b, api.ErrSum)
		wantSeen(t, summed(b))
	}
	for _, n := range notes() {
		b, _ := Write(n)
		if _, e := label.Read(b); e != api.ErrSum {
			t.Errorf("label.Read of the block of %+v: error %d", n, e)
		}
		if _, e := super.Read(b); e != api.ErrSum {
			t.Errorf("super.Read of the block of %+v: error %d", n, e)
		}
	}
}

// P11.3: bytes that are handed in are only read, and what stands behind them, too.
func TestBytesOnlyRead(t *testing.T) {
	behind := append(drawn(chapter()), drawn(great())...)
	was := bytes.Clone(behind)
	if n, e := Read(behind[:128]); e != api.OK || !same(n, chapter()) {
		t.Errorf("Read: %+v, error %d", n, e)
	}
	wantNone(t, behind[:0], api.ErrSum)
	wantNone(t, behind[:127], api.ErrText)
	wantNone(t, behind[1:129], api.ErrSum)
	if !bytes.Equal(behind, was) {
		t.Error("what is handed in is changed")
	}
}

// P11.3: records that are handed in are only read, and what stands behind them, too, by all calls.
func TestRecordsOnlyRead(t *testing.T) {
	for many := range 17 {
		n := great()
		was := twin(n)
		part := n
		part.Records = n.Records[:many]
		want(t, part)
		if !Same(part, part) || Same(part, n) != (many == 16) {
			t.Errorf("Same of %d records", many)
		}
		if !same(n, was) {
			t.Errorf("what is handed in is changed: %+v", n)
		}
	}
	n := of(3, 2, 255, 1)
	wantBad(t, n)
	if !same(n, of(3, 2, 255, 1)) {
		t.Errorf("what is handed in is changed: %+v", n)
	}
}

// P11.3: a block that is answered is new memory: what is done to it, or behind it, is seen in no other answer.
func TestNewBytes(t *testing.T) {
	n := chapter()
	first, _ := Write(n)
	second, _ := Write(n)
	for i := range first {
		first[i] = 99
	}
	_ = append(first[:cap(first)], 99)
	third, e := Write(n)
	if e != api.OK || !bytes.Equal(second, drawn(chapter())) || !bytes.Equal(third, second) || !same(n, chapter()) {
		t.Error("what is done to an answer is seen in another one")
	}
}

// P11.3: records that are answered are new memory, too, and hang on the bytes no more.
func TestNewRecords(t *testing.T) {
	b := drawn(great())
	first, _ := Read(b)
	second, _ := Read(b)
	for i := range first.Records {
		first.Records[i] = api.Record{Slot: 9, Sum: 9}
	}
	first.Records = append(first.Records[:3], api.Record{})
	third, e := Read(b)
	clear(b)
	if e != api.OK || !same(second, great()) || !same(third, great()) {
		t.Error("what is done to an answer is seen in another one")
	}
}

// P11.4: what is read is written as just these bytes.
func TestReadIsWritten(t *testing.T) {
	for _, n := range notes() {
		b := drawn(n)
		r, e := Read(b)
		if e != api.OK || !Same(r, n) {
			t.Fatalf("Read(% x): %+v, error %d", b, r, e)
		}
		if w, e := Write(r); e != api.OK || !bytes.Equal(w, b) {
			t.Fatalf("Write(%+v): % x, error %d", r, w, e)
		}
	}
}

// P11.4: notes that are unlike have unlike blocks; none has another one's.
func TestUnlike(t *testing.T) {
	has := map[string]api.Note{}
	gather := func(n api.Note) {
		b, e := Write(n)
		if e != api.OK {
			return
		}
		if other, ok := has[string(b)]; ok && !same(other, n) {
			t.Fatalf("%+v and %+v have one block", n, other)
		}
		has[string(b)] = n
	}
	for _, n := range notes() {
		for _, m := range unlike(n) {
			gather(m)
		}
		gather(api.Note{Id: n.Age, Age: n.Seq, Seq: n.Age, Stripe: n.Stripe, Records: n.Records})
		for stripe := range 64 {
			m := n
			m.Stripe = stripe
			gather(m)
		}
	}
	if len(has) < 2000 {
		t.Errorf("only %d notes that may be are gathered", len(has))
	}
}

// P11.4: a block one byte of which is another one is none, whatever it is.
func TestOneByteTurned(t *testing.T) {
	for _, n := range notes() {
		b := drawn(n)
		for at := range b {
			for x := 1; x < 256; x++ {
				b[at] ^= byte(x)
				wantNone(t, b, api.ErrSum)
				b[at] ^= byte(x)
			}
		}
	}
}

// P11.4: nor is one up to four bytes of which that stand side by side are others: all ahead of the sum, or all its own.
func TestFourBytesTurned(t *testing.T) {
	x := uint32(2463534242)
	for _, n := range notes() {
		b := drawn(n)
		for at := range b {
			for many := 2; many <= 4; many++ {
				if at < 124 && at+many > 124 || at+many > 128 {
					continue
				}
				for range 30 {
					// So many bits go through all numbers but nought before they come back.
					x ^= x << 13
					x ^= x >> 17
					x ^= x << 5
					c := bytes.Clone(b)
					for i := range many {
						c[at+i] ^= byte(x >> (8 * i))
					}
					if !bytes.Equal(c, b) {
						wantNone(t, c, api.ErrSum)
					}
				}
			}
		}
	}
}

// P11.1: places are yielded in order, and no more of them once the loop is left.
func TestPlaces(t *testing.T) {
	var l []int
	for i, at := range places(16) {
		l = append(l, i, at)
		if i == 2 {
			break
		}
	}
	if !slices.Equal(l, []int{0, 15, 1, 21, 2, 27}) {
		t.Errorf("places: %v", l)
	}
	for i, at := range places(0) {
		t.Errorf("places of none: %d, %d", i, at)
	}
}

// P11.2: a reader goes on number by number, and its first error stays.
func TestFirstErrorStays(t *testing.T) {
	b := []byte{0, 1, 2, 3, 4, 5, 6}
	b = append(b, make([]byte, 121)...)
	r := &reader{block: b, at: 1}
	next := r.next
	if next(1) != 1 || next(4) != 0x05040302 || next(1) != 6 || next(2) != 0 || r.e != api.OK || r.at != 9 {
		t.Errorf("next: at %d, error %d", r.at, r.e)
	}
	r.at = 127
	if next(4) != 0 || r.e != api.ErrArg {
		t.Errorf("next beyond the block: error %d", r.e)
	}
	r.at, r.block = 1, b[:9]
	if next(1) != 0 || r.e != api.ErrArg {
		t.Errorf("next behind an error: error %d", r.e)
	}
	r.block = b
	if next(1) != 2 || r.e != api.ErrArg {
		t.Errorf("next that is well behind an error: error %d", r.e)
	}
}

// P11.1 and P11.2: a call is answered the same again, whatever was asked between.
func TestNothingIsKept(t *testing.T) {
	for range 100 {
		for _, n := range notes() {
			wantGood(t, n)
			wantNone(t, nil, api.ErrSum)
			wantNone(t, []byte{78}, api.ErrText)
			n.Stripe = -1
			wantBad(t, n)
		}
	}
}
