package split

import (
	"bytes"
	"math"
	"slices"
	"testing"

	"freeboard/api"
)

// chapter is the config of the chapter's examples: 4 blocks.
func chapter() api.Config {
	return api.Config{Members: 3, Chunk: 1, Rows: 2, Log: 12, Heads: 2}
}

// configs are arrays of 2, 4, 7, 12, 225 and 960 blocks: fewer, and more, than a request may have.
func configs() map[int]api.Config {
	return map[int]api.Config{
		2:   {Members: 3, Chunk: 1, Rows: 1, Log: 12, Heads: 2},
		4:   chapter(),
		7:   {Members: 8, Chunk: 1, Rows: 1, Log: 255, Heads: 2},
		12:  {Id: 9, Members: 3, Chunk: 2, Rows: 3, Log: 36, Heads: 8},
		225: {Id: math.MaxUint32, Members: 16, Chunk: 5, Rows: 3, Log: 255, Heads: 8},
		960: {Members: 16, Chunk: 8, Rows: 8, Log: 255, Heads: 2},
	}
}

// bad are configs that may not be.
func bad() []api.Config {
	return []api.Config{
		{},
		{Members: 2, Chunk: 1, Rows: 2, Log: 12, Heads: 2},
		{Members: 17, Chunk: 1, Rows: 2, Log: 255, Heads: 2},
		{Members: 3, Chunk: 0, Rows: 2, Log: 12, Heads: 2},
		{Members: 3, Chunk: 1, Rows: 9, Log: 12, Heads: 2},
		{Members: 3, Chunk: 1, Rows: 2, Log: 11, Heads: 2},
		{Members: 3, Chunk: 1, Rows: 2, Log: 12, Heads: 1},
		{Members: math.MinInt, Chunk: math.MinInt, Rows: math.MinInt, Log: math.MinInt, Heads: math.MinInt},
		{Members: math.MaxInt, Chunk: math.MaxInt, Rows: math.MaxInt, Log: math.MaxInt, Heads: math.MaxInt},
	}
}

// mixed are n bytes without a short rule that a reader would see, others for each seed.
func mixed(seed uint32, n int) []byte {
	b := make([]byte, n)
	x := seed*2654435761 + 1
	for i := range b {
		x = x*1664525 + 1013904223
		b[i] = byte(x >> 24)
	}
	return b
}

// ask is a request, with the data that its kind asks for.
func ask(kind uint8, at, many int) api.Ask {
	a := api.Ask{Kind: kind, At: at, Many: many}
	if kind == 2 || kind == 3 {
		a.Data = mixed(uint32(at), many*128)
	}
	return a
}

// whole is each request that may be, of an array of so many blocks.
func whole(blocks int) []api.Ask {
	l := []api.Ask{ask(4, 0, 0), ask(6, 0, 0)}
	for _, kind := range []uint8{1, 2, 3, 5} {
		for at := range blocks {
			for many := 1; many <= 8 && at+many <= blocks; many++ {
				l = append(l, ask(kind, at, many))
			}
		}
	}
	return l
}

// told is what Check is to answer by the chapter's words, for an array of so many blocks: it has a table of kinds, and counts blocks one by one.
func told(blocks int, a api.Ask) api.Errno {
	kinds := map[uint8]string{1: "none", 2: "data", 3: "data", 4: "alone", 5: "none", 6: "alone"}
	want := 0
	switch kinds[a.Kind] {
	case "alone":
		if a.At != 0 || a.Many != 0 {
			return 2
		}
	case "data", "none":
		fits := a.Many > 0 && a.Many < 9
		for i := 0; fits && i < a.Many; i++ {
			fits = a.At >= 0 && a.At < blocks && a.At+i < blocks
		}
		if !fits {
			return 2
		}
		if kinds[a.Kind] == "data" {
			want = a.Many * 128
		}
	default:
		return 2
	}
	if len(a.Data) != want {
		return 3
	}
	return 0
}

// wantCheck asks Check and Blocks of a request, and Touch of it and itself, that has to be the same error.
func wantCheck(t *testing.T, c api.Config, a api.Ask, want api.Errno) {
	t.Helper()
	if e := Check(c, a); e != want {
		t.Fatalf("%+v: Check of kind %d, %d from %d, %d bytes: error %d, not %d", c, a.Kind, a.Many, a.At, len(a.Data), e, want)
	}
	l, e := Blocks(c, a)
	if e != want || e != api.OK && len(l) != 0 {
		t.Fatalf("%+v: Blocks of kind %d, %d from %d, %d bytes: %v, error %d, not %d", c, a.Kind, a.Many, a.At, len(a.Data), l, e, want)
	}
	is, e := Touch(c, a, a)
	if e != want || e != api.OK && is {
		t.Fatalf("%+v: Touch of kind %d, %d from %d, %d bytes: %v, error %d, not %d", c, a.Kind, a.Many, a.At, len(a.Data), is, e, want)
	}
}

func touch(t *testing.T, c api.Config, a, b api.Ask) bool {
	t.Helper()
	is, e := Touch(c, a, b)
	if e != api.OK {
		t.Fatalf("%+v: Touch(%d %d %d, %d %d %d): error %d", c, a.Kind, a.At, a.Many, b.Kind, b.At, b.Many, e)
	}
	return is
}

// P8.1 and P8.2: the chapter's examples.
func TestExamples(t *testing.T) {
	c := chapter()
	if l, e := Blocks(c, api.Ask{Kind: api.AskRead, At: 1, Many: 2}); e != api.OK || !slices.Equal(l, []int{1, 2}) {
		t.Errorf("a read of 2 from 1: %v, error %d", l, e)
	}
	if l, e := Blocks(c, api.Ask{Kind: api.AskFlush}); e != api.OK || len(l) != 0 {
		t.Errorf("a flush: %v, error %d", l, e)
	}
	wantCheck(t, c, api.Ask{Kind: api.AskRead, At: 3, Many: 2}, api.ErrArg)
	wantCheck(t, c, api.Ask{Kind: api.AskRead, At: 0, Many: 9}, api.ErrArg)
	wantCheck(t, c, api.Ask{Kind: api.AskWrite, At: 0, Many: 1}, api.ErrText)
	wantCheck(t, c, api.Ask{Kind: 7, At: 0, Many: 1}, api.ErrArg)
	write := api.Ask{Kind: api.AskWrite, At: 1, Many: 1, Data: mixed(1, api.Size)}
	read := api.Ask{Kind: api.AskRead, At: 0, Many: 2}
	discard := api.Ask{Kind: api.AskDiscard, At: 0, Many: 1}
	if !touch(t, c, write, read) || touch(t, c, read, read) || !touch(t, c, discard, discard) {
		t.Error("Touch of a write and a read, of two reads, of two discards: not true, false, true")
	}
}

// P8.1: all kinds there are, and those beside them, each with few and many blocks, about both ends of the array, with and without data, against the chapter's words.
func TestCheckByWords(t *testing.T) {
	for blocks, c := range configs() {
		for kind := range uint8(9) {
			for many := -2; many <= 11; many++ {
				for _, at := range []int{-129, -9, -8, -1, 0, 1, 2, 3, 4, 5, blocks - 9, blocks - 8, blocks - many - 1, blocks - many, blocks - many + 1, blocks - 2, blocks - 1, blocks, blocks + 1, blocks + 9} {
					for _, n := range []int{0, 1, 127, 128, 129, 256, many*128 - 1, many * 128, many*128 + 1, many * 16} {
						a := api.Ask{Kind: kind, At: at, Many: many, Data: make([]byte, max(n, 0))}
						wantCheck(t, c, a, told(blocks, a))
					}
				}
			}
		}
	}
}

// P8.1: of all kinds that a byte can tell but six, nothing may be.
func TestKinds(t *testing.T) {
	for n := range 256 {
		kind := uint8(n)
		want := api.ErrArg
		if n >= 1 && n <= 6 {
			want = api.OK
		}
		if alone := n == 4 || n == 6; alone || want != api.OK {
			wantCheck(t, chapter(), ask(kind, 0, 0), want)
		}
		if alone := n == 4 || n == 6; !alone {
			wantCheck(t, chapter(), ask(kind, 0, 1), want)
		}
	}
}

// P8.1: numbers so wild that a sum of them, or what is taken of them, wraps round.
func TestWildNumbers(t *testing.T) {
	wild := []int{
		math.MinInt, math.MinInt + 1, math.MinInt + 4, math.MinInt + 8, math.MinInt / 2, math.MinInt / 128, math.MinInt32, -1 << 57, -1,
		9, 1 << 16, 1 << 31, 1 << 32, 1<<32 + 1, 1 << 56, 1 << 57, 1<<57 + 1, 1 << 62, math.MaxInt / 2, math.MaxInt - 8, math.MaxInt - 1, math.MaxInt,
	}
	for _, c := range []api.Config{chapter(), configs()[7]} {
		for kind := range uint8(8) {
			for _, n := range wild {
				for _, data := range [][]byte{nil, mixed(3, 128)} {
					for _, other := range append(wild, 0, 1, 2, 8) {
						wantCheck(t, c, api.Ask{Kind: kind, At: n, Many: other, Data: data}, api.ErrArg)
						wantCheck(t, c, api.Ask{Kind: kind, At: other, Many: n, Data: data}, api.ErrArg)
					}
				}
			}
		}
	}
}

// P8.1: a request has at most 8 blocks, however many the array has, and no more than there are.
func TestMostBlocks(t *testing.T) {
	for blocks, c := range configs() {
		for _, kind := range []uint8{1, 2, 3, 5} {
			most := min(blocks, 8)
			wantCheck(t, c, ask(kind, blocks-most, most), api.OK)
			wantCheck(t, c, ask(kind, 0, most), api.OK)
			wantCheck(t, c, ask(kind, 0, most+1), api.ErrArg)
			wantCheck(t, c, ask(kind, blocks-most+1, most), api.ErrArg)
			wantCheck(t, c, ask(kind, blocks-1, 1), api.OK)
			wantCheck(t, c, ask(kind, blocks, 1), api.ErrArg)
		}
	}
}

// P8.1: lists that are empty, and those that are nil, are the same: a list with room behind it is empty as well.
func TestEmptyIsNil(t *testing.T) {
	for _, none := range [][]byte{nil, {}, make([]byte, 0, 128)} {
		for _, kind := range []uint8{1, 5} {
			wantCheck(t, chapter(), api.Ask{Kind: kind, At: 1, Many: 1, Data: none}, api.OK)
		}
		for _, kind := range []uint8{4, 6} {
			wantCheck(t, chapter(), api.Ask{Kind: kind, Data: none}, api.OK)
		}
		for _, kind := range []uint8{2, 3} {
			wantCheck(t, chapter(), api.Ask{Kind: kind, At: 1, Many: 1, Data: none}, api.ErrText)
		}
	}
}

// P8.1: the config's error comes first, then ErrArg, then ErrText.
func TestErrorsInOrder(t *testing.T) {
	for _, c := range bad() {
		for kind := range uint8(8) {
			for _, at := range []int{math.MinInt, -1, 0, 1, math.MaxInt} {
				for _, many := range []int{math.MinInt, -1, 0, 1, 9, math.MaxInt} {
					for _, data := range [][]byte{nil, mixed(1, 1), mixed(1, 128)} {
						wantCheck(t, c, api.Ask{Kind: kind, At: at, Many: many, Data: data}, api.ErrBad)
					}
				}
			}
		}
	}
	one := mixed(1, 1)
	for _, a := range []api.Ask{
		{Kind: 0, At: 0, Many: 1, Data: one},
		{Kind: 7, At: 0, Many: 1, Data: one},
		{Kind: 1, At: 4, Many: 1, Data: one},
		{Kind: 2, At: 0, Many: 5, Data: one},
		{Kind: 2, At: 0, Many: 0, Data: one},
		{Kind: 3, At: -1, Many: 1},
		{Kind: 4, At: 1, Many: 0, Data: one},
		{Kind: 5, At: 0, Many: 0, Data: one},
		{Kind: 6, At: 0, Many: 1, Data: one},
	} {
		wantCheck(t, chapter(), a, api.ErrArg)
		a.Kind, a.At, a.Many = 4, 0, 0
		a.Data = one
		wantCheck(t, chapter(), a, api.ErrText)
	}
}

// P8.2 and P8.4: of each request that may be, its blocks are all told, each once, rising.
func TestBlocksRise(t *testing.T) {
	for blocks, c := range configs() {
		for _, a := range whole(blocks) {
			l, e := Blocks(c, a)
			if e != api.OK || len(l) != a.Many {
				t.Fatalf("%+v: kind %d, %d from %d: %v, error %d", c, a.Kind, a.Many, a.At, l, e)
			}
			for i, b := range l {
				if b != a.At+i {
					t.Fatalf("%+v: kind %d, %d from %d: %v", c, a.Kind, a.Many, a.At, l)
				}
			}
		}
	}
}

// P8.2: of all pairs of requests that may be, those touch that have a block in common, one of them writing.
func TestTouchAll(t *testing.T) {
	for _, blocks := range []int{2, 4, 7, 12} {
		c := configs()[blocks]
		for _, a := range whole(blocks) {
			var has [12]bool
			for i := range a.Many {
				has[a.At+i] = true
			}
			for _, b := range whole(blocks) {
				common := false
				for i := range b.Many {
					common = common || has[b.At+i]
				}
				want := common && (a.Kind != 1 || b.Kind != 1)
				if is := touch(t, c, a, b); is != want {
					t.Fatalf("%+v: Touch(%d %d %d, %d %d %d): %v", c, a.Kind, a.At, a.Many, b.Kind, b.At, b.Many, is)
				}
			}
		}
	}
}

// P8.2: neighbours touch not, those that have the last, or the first, block in common do; also at the end of the greatest array.
func TestTouchEdges(t *testing.T) {
	c := configs()[960]
	for _, kind := range []uint8{2, 3, 5} {
		for _, other := range []uint8{1, 2, 3, 5} {
			for _, at := range []int{8, 255, 256, 944, 951} {
				a := ask(kind, at, 8)
				for b, want := range map[[2]int]bool{{at - 8, 8}: false, {at - 7, 8}: true, {at + 7, 2}: true, {at + 8, 1}: false, {at, 1}: true, {at + 3, 2}: true, {at - 1, 1}: false} {
					if b[0]+b[1] > 960 {
						continue
					}
					if touch(t, c, a, ask(other, b[0], b[1])) != want || touch(t, c, ask(other, b[0], b[1]), a) != want {
						t.Errorf("kind %d, 8 from %d, and kind %d, %d from %d: not %v", kind, at, other, b[1], b[0], want)
					}
				}
			}
		}
	}
}

// P8.2: the data make no difference, nor whether they are the same memory.
func TestTouchWhateverIsWritten(t *testing.T) {
	c := chapter()
	data := mixed(5, 256)
	a := api.Ask{Kind: api.AskWrite, At: 0, Many: 2, Data: data}
	for _, b := range []api.Ask{
		{Kind: api.AskFua, At: 1, Many: 2, Data: data},
		{Kind: api.AskFua, At: 1, Many: 2, Data: bytes.Clone(data)},
		{Kind: api.AskFua, At: 1, Many: 2, Data: make([]byte, 256)},
	} {
		if !touch(t, c, a, b) || !touch(t, c, b, a) {
			t.Error("two writes of block 1 touch not")
		}
		b.At = 2
		if touch(t, c, a, b) || touch(t, c, b, a) {
			t.Error("writes of 2 from 0 and of 2 from 2 touch")
		}
	}
}

// P8.2: Touch tells the error of the first request ahead of that of the second, and false beside it.
func TestTouchErrors(t *testing.T) {
	c := chapter()
	good := ask(2, 1, 1)
	arg := api.Ask{Kind: 2, At: 4, Many: 1, Data: good.Data}
	text := api.Ask{Kind: 2, At: 1, Many: 1}
	for i, x := range []struct {
		a, b api.Ask
		want api.Errno
	}{
		{arg, good, api.ErrArg},
		{good, arg, api.ErrArg},
		{text, good, api.ErrText},
		{good, text, api.ErrText},
		{arg, text, api.ErrArg},
		{text, arg, api.ErrText},
		{ask(4, 0, 0), text, api.ErrText},
		{ask(4, 0, 0), arg, api.ErrArg},
		{text, ask(6, 0, 0), api.ErrText},
		{ask(1, 1, 1), api.Ask{}, api.ErrArg},
		{ask(1, 0, 1), text, api.ErrText},
	} {
		if is, e := Touch(c, x.a, x.b); e != x.want || is {
			t.Errorf("%d: %v, error %d, not %d", i, is, e, x.want)
		}
	}
	for _, c := range bad() {
		for _, x := range [][2]api.Ask{{good, good}, {arg, text}, {text, arg}, {{}, {}}, {good, arg}, {ask(4, 0, 0), ask(6, 0, 0)}} {
			if is, e := Touch(c, x[0], x[1]); e != api.ErrBad || is {
				t.Errorf("%+v: %v, error %d, not %d", c, is, e, api.ErrBad)
			}
		}
	}
}

// P8.3: what is handed in is only read; not what is behind it either.
func TestOnlyRead(t *testing.T) {
	c := chapter()
	behind := mixed(7, 512)
	was := bytes.Clone(behind)
	a := api.Ask{Kind: api.AskWrite, At: 1, Many: 2, Data: behind[:256]}
	b := api.Ask{Kind: api.AskFua, At: 2, Many: 1, Data: behind[128:256]}
	wantCheck(t, c, a, api.OK)
	wantCheck(t, c, b, api.OK)
	if !touch(t, c, a, b) || !bytes.Equal(behind, was) {
		t.Error("the data are changed")
	}
}

// P8.3: what is answered is new memory: what is done to it is seen in no other answer, nor is there one answer's room in another's.
func TestNewMemory(t *testing.T) {
	c := configs()[12]
	a := ask(2, 3, 5)
	first, _ := Blocks(c, a)
	second, _ := Blocks(c, a)
	for i := range first {
		first[i] = -1
	}
	_ = append(first[:cap(first)], 99)
	third, e := Blocks(c, a)
	want := []int{3, 4, 5, 6, 7}
	if e != api.OK || !slices.Equal(second, want) || !slices.Equal(third, want) {
		t.Errorf("%v, %v, error %d", second, third, e)
	}
}

// P8.4: touching is mutual; a request that writes touches itself, one that does not touches no other one that does not.
func TestTouchFollows(t *testing.T) {
	for _, blocks := range []int{2, 7, 12} {
		c := configs()[blocks]
		writes := func(a api.Ask) bool { return a.Kind == 2 || a.Kind == 3 || a.Kind == 5 }
		for _, a := range whole(blocks) {
			if touch(t, c, a, a) != writes(a) {
				t.Fatalf("kind %d, %d from %d, and itself", a.Kind, a.Many, a.At)
			}
			for _, b := range whole(blocks) {
				is := touch(t, c, a, b)
				if is != touch(t, c, b, a) || is && !writes(a) && !writes(b) {
					t.Fatalf("Touch(%d %d %d, %d %d %d)", a.Kind, a.At, a.Many, b.Kind, b.At, b.Many)
				}
			}
		}
	}
}

// P8.1 and P8.2: a call is answered the same again, whatever was asked between.
func TestNothingIsKept(t *testing.T) {
	c := chapter()
	for range 3 {
		wantCheck(t, c, ask(2, 1, 2), api.OK)
		wantCheck(t, c, ask(2, 3, 2), api.ErrArg)
		wantCheck(t, configs()[12], ask(2, 3, 2), api.OK)
		wantCheck(t, api.Config{}, ask(2, 1, 2), api.ErrBad)
		if !touch(t, c, ask(5, 0, 2), ask(1, 1, 3)) || touch(t, c, ask(5, 0, 1), ask(1, 1, 3)) {
			t.Error("Touch is answered otherwise")
		}
	}
}
