package shape

import (
	"math"
	"testing"

	"freeboard/api"
)

// five are a config's numbers: its stripes, blocks, need, and how many blocks a member and the journal have.
type five [5]int

// numbers are the calls that tell a number, in the order of five.
func numbers() [5]func(api.Config) (int, api.Errno) {
	return [5]func(api.Config) (int, api.Errno){Stripes, Blocks, Need, Member, Journal}
}

// ask asks for all five numbers of a config that may be.
func ask(t *testing.T, c api.Config) five {
	t.Helper()
	var l five
	for i, f := range numbers() {
		n, e := f(c)
		if e != api.OK {
			t.Fatalf("%+v: number %d: error %d", c, i, e)
		}
		l[i] = n
	}
	return l
}

// wantGood asks that a config may be, and for its numbers.
func wantGood(t *testing.T, c api.Config, want five) {
	t.Helper()
	if e := Check(c); e != api.OK {
		t.Fatalf("%+v: error %d", c, e)
	}
	if l := ask(t, c); l != want {
		t.Fatalf("%+v: %v, not %v", c, l, want)
	}
}

// wantBad asks that a config may not be, and that no number is told beside the error.
func wantBad(t *testing.T, c api.Config) {
	t.Helper()
	if e := Check(c); e != api.ErrBad {
		t.Fatalf("%+v: error %d", c, e)
	}
	for i, f := range numbers() {
		if n, e := f(c); n != 0 || e != api.ErrBad {
			t.Fatalf("%+v: number %d: %d, error %d", c, i, n, e)
		}
	}
}

// room is the need of so many members: counted out, not reckoned as the package does.
func room(members int) int {
	n := 1 // the note
	for range members {
		n++
	}
	return n
}

// mayBe tells by the chapter's words, with its numbers written out, whether a config may be.
func mayBe(c api.Config) bool {
	if c.Members < 3 || c.Members > 16 || c.Chunk < 1 || c.Chunk > 8 || c.Rows < 1 || c.Rows > 8 || c.Heads < 2 || c.Heads > 8 {
		return false
	}
	least := room(c.Members)
	for range c.Heads {
		least += room(c.Members)
	}
	return least <= c.Log && c.Log <= 255
}

// byWords are the numbers by the chapter's words: stripes are counted out, and of each its blocks.
func byWords(c api.Config) five {
	l := five{2: room(c.Members), 3: 1, 4: 1}
	for range c.Rows {
		for range c.Chunk {
			l[0]++
			l[1] += c.Members - 1
			l[3]++
		}
	}
	l[4] += c.Log
	return l
}

// around goes through all configs whose numbers are from three below to three above what they may be, but for the Log and the Id, which yield is to choose.
func around(yield func(api.Config)) {
	for members := 0; members <= 19; members++ {
		for chunk := -2; chunk <= 11; chunk++ {
			for rows := -2; rows <= 11; rows++ {
				for heads := -1; heads <= 11; heads++ {
					yield(api.Config{Members: members, Chunk: chunk, Rows: rows, Heads: heads})
				}
			}
		}
	}
}

// each goes through all configs that may be, but for their Ids, of so many heads and blocks of a chunk.
func each(heads, chunk int, yield func(api.Config)) {
	for members := 3; members <= 16; members++ {
		for rows := 1; rows <= 8; rows++ {
			for log := (members + 1) * (heads + 1); log <= 255; log++ {
				yield(api.Config{Id: uint32(log), Members: members, Chunk: chunk, Rows: rows, Log: log, Heads: heads})
			}
		}
	}
}

// P6.1 and P6.2: the chapter's examples.
func TestExamples(t *testing.T) {
	c := api.Config{Members: 3, Chunk: 2, Rows: 3, Log: 12, Heads: 2}
	wantGood(t, c, five{6, 12, 4, 7, 13})
	c.Log = 11
	wantBad(t, c)
	c.Members, c.Log = 17, 255
	wantBad(t, c)
	wantBad(t, api.Config{})
}

// P6.1 and P6.2: the least and the greatest config, and some in the midst, with their numbers written out.
func TestSomeConfigs(t *testing.T) {
	for _, x := range []struct {
		c    api.Config
		want five
	}{
		{api.Config{Members: 3, Chunk: 1, Rows: 1, Log: 12, Heads: 2}, five{1, 2, 4, 2, 13}},
		{api.Config{Members: 3, Chunk: 1, Rows: 1, Log: 255, Heads: 2}, five{1, 2, 4, 2, 256}},
		{api.Config{Members: 16, Chunk: 8, Rows: 8, Log: 153, Heads: 8}, five{64, 960, 17, 65, 154}},
		{api.Config{Members: 16, Chunk: 8, Rows: 8, Log: 255, Heads: 8}, five{64, 960, 17, 65, 256}},
		{api.Config{Members: 16, Chunk: 1, Rows: 1, Log: 51, Heads: 2}, five{1, 15, 17, 2, 52}},
		{api.Config{Members: 3, Chunk: 8, Rows: 1, Log: 36, Heads: 8}, five{8, 16, 4, 9, 37}},
		{api.Config{Members: 3, Chunk: 1, Rows: 8, Log: 37, Heads: 8}, five{8, 16, 4, 9, 38}},
		{api.Config{Members: 4, Chunk: 2, Rows: 1, Log: 15, Heads: 2}, five{2, 6, 5, 3, 16}},
		{api.Config{Members: 7, Chunk: 5, Rows: 3, Log: 100, Heads: 4}, five{15, 90, 8, 16, 101}},
	} {
		wantGood(t, x.c, x.want)
	}
}

// P6.1: of a config whose numbers are all far from their bounds each one alone is put at its bounds, and beyond them.
func TestEachBound(t *testing.T) {
	base := api.Config{Id: 5, Members: 6, Chunk: 4, Rows: 5, Log: 100, Heads: 4}
	wantGood(t, base, five{20, 100, 7, 21, 101})
	for _, x := range []struct {
		name  string
		put   func(*api.Config, int)
		first int
		last  int
	}{
		{"members", func(c *api.Config, n int) { c.Members = n; c.Log = 255 }, 3, 16},
		{"chunk", func(c *api.Config, n int) { c.Chunk = n }, 1, 8},
		{"rows", func(c *api.Config, n int) { c.Rows = n }, 1, 8},
		{"heads", func(c *api.Config, n int) { c.Heads = n; c.Log = 255 }, 2, 8},
		{"log", func(c *api.Config, n int) { c.Log = n }, 35, 255},
	} {
		for n := -300; n <= 600; n++ {
			c := base
			x.put(&c, n)
			w := api.ErrBad
			if x.first <= n && n <= x.last {
				w = api.OK
			}
			if e := Check(c); e != w {
				t.Errorf("%s %d: error %d, not %d", x.name, n, e, w)
			}
		}
	}
}

// P6.1: the least Log of each number of members and heads, written out; one less may not be.
func TestLeastLog(t *testing.T) {
	least := map[int][7]int{
		3:  {12, 16, 20, 24, 28, 32, 36},
		4:  {15, 20, 25, 30, 35, 40, 45},
		5:  {18, 24, 30, 36, 42, 48, 54},
		6:  {21, 28, 35, 42, 49, 56, 63},
		7:  {24, 32, 40, 48, 56, 64, 72},
		8:  {27, 36, 45, 54, 63, 72, 81},
		9:  {30, 40, 50, 60, 70, 80, 90},
		10: {33, 44, 55, 66, 77, 88, 99},
		11: {36, 48, 60, 72, 84, 96, 108},
		12: {39, 52, 65, 78, 91, 104, 117},
		13: {42, 56, 70, 84, 98, 112, 126},
		14: {45, 60, 75, 90, 105, 120, 135},
		15: {48, 64, 80, 96, 112, 128, 144},
		16: {51, 68, 85, 102, 119, 136, 153},
	}
	for members, row := range least {
		for i, n := range row {
			c := api.Config{Members: members, Chunk: 1, Rows: 1, Log: n, Heads: i + 2}
			wantGood(t, c, byWords(c))
			c.Log--
			wantBad(t, c)
		}
	}
	if len(least) != 14 {
		t.Errorf("%d numbers of members", len(least))
	}
}

// P6.1 and P6.2: all configs whose numbers are near to what they may be, with Logs at the edges of what each may have.
func TestAllAround(t *testing.T) {
	around(func(c api.Config) {
		edge := (c.Members + 1) * (c.Heads + 1)
		for _, log := range []int{-1, 0, edge - 1, edge, 254, 255, 256} {
			c.Id, c.Log = uint32(log), log
			if mayBe(c) {
				wantGood(t, c, byWords(c))
			} else {
				wantBad(t, c)
			}
		}
	})
}

// P6.1: each Log that may be, and those beyond, of each number of members and heads.
func TestEachLog(t *testing.T) {
	for members := 2; members <= 17; members++ {
		for heads := 1; heads <= 9; heads++ {
			for log := -5; log <= 520; log++ {
				c := api.Config{Members: members, Chunk: 3, Rows: 2, Log: log, Heads: heads}
				if e := Check(c); (e == api.OK) != mayBe(c) || e != api.OK && e != api.ErrBad {
					t.Errorf("%+v: error %d", c, e)
				}
			}
		}
	}
}

// P6.1 and P6.2: the Id may be any, and changes no number.
func TestAnyId(t *testing.T) {
	good := api.Config{Members: 9, Chunk: 3, Rows: 7, Log: 90, Heads: 8}
	bad := good
	bad.Log--
	for _, id := range []uint32{0, 1, 2, 255, 256, math.MaxInt32, math.MaxInt32 + 1, math.MaxUint32} {
		good.Id, bad.Id = id, id
		wantGood(t, good, five{21, 168, 10, 22, 91})
		wantBad(t, bad)
	}
}

// P6.1 and P6.2: numbers whose products wrap round to what may be are refused.
func TestWrapRound(t *testing.T) {
	for log := -1; log <= 256; log++ {
		for _, c := range []api.Config{
			{Members: 1<<62 - 1, Chunk: 1, Rows: 1, Heads: 3},
			{Members: math.MaxInt, Chunk: 1, Rows: 1, Heads: 7},
			{Members: 1<<61 - 1, Chunk: 1, Rows: 1, Heads: 7},
			{Members: 3, Chunk: 1, Rows: 1, Heads: 1<<62 - 1},
			{Members: 7, Chunk: 1, Rows: 1, Heads: 1<<61 + 2},
			{Members: 3, Chunk: 1 << 32, Rows: 1 << 32, Heads: 2},
			{Members: 3, Chunk: 1<<32 + 1, Rows: 1 << 32, Heads: 2},
			{Members: 3, Chunk: math.MaxInt, Rows: math.MaxInt, Heads: 2},
			{Members: 3, Chunk: -1, Rows: -1, Heads: 2},
			{Members: -5, Chunk: 1, Rows: 1, Heads: -4},
		} {
			c.Log = log
			wantBad(t, c)
		}
	}
}

// P6.1 and P6.2: wild numbers, each for itself and by twos, are refused.
func TestWild(t *testing.T) {
	wild := []int{
		math.MinInt, math.MinInt + 1, math.MinInt / 2, math.MinInt32, -1 << 16, -256, -1,
		256, 1 << 16, 1 << 31, 1 << 32, 1<<32 + 3, 1 << 60, 1 << 61, 1 << 62, 1<<62 + 1, math.MaxInt - 1, math.MaxInt,
	}
	puts := []func(*api.Config, int){
		func(c *api.Config, n int) { c.Members = n },
		func(c *api.Config, n int) { c.Chunk = n },
		func(c *api.Config, n int) { c.Rows = n },
		func(c *api.Config, n int) { c.Heads = n },
		func(c *api.Config, n int) { c.Log = n },
	}
	for _, base := range []api.Config{{Members: 3, Chunk: 1, Rows: 1, Log: 12, Heads: 2}, {Members: 16, Chunk: 8, Rows: 8, Log: 255, Heads: 8}, {}} {
		for _, f := range puts {
			for _, n := range wild {
				one := base
				f(&one, n)
				wantBad(t, one)
				for _, g := range puts {
					for _, m := range wild {
						two := one
						g(&two, m)
						wantBad(t, two)
					}
				}
			}
		}
	}
}

// P6.1 and P6.2: a call is answered the same again, whatever was asked between.
func TestNothingIsKept(t *testing.T) {
	good := api.Config{Members: 5, Chunk: 2, Rows: 4, Log: 24, Heads: 3}
	bad := api.Config{Members: 5, Chunk: 2, Rows: 4, Log: 23, Heads: 3}
	for range 3 {
		wantGood(t, good, five{8, 32, 6, 9, 25})
		wantBad(t, bad)
		wantBad(t, api.Config{})
	}
}

// P6.3: no device has more blocks than one may have, and the greatest journal has as many.
func TestDevicesMayBe(t *testing.T) {
	most := 0
	for heads := api.MinHeads; heads <= api.MaxHeads; heads++ {
		for chunk := 1; chunk <= api.MaxChunk; chunk++ {
			each(heads, chunk, func(c api.Config) {
				l := ask(t, c)
				if l[3] < 1 || l[3] > api.MaxBlocks || l[4] < 1 || l[4] > api.MaxBlocks {
					t.Fatalf("%+v: %d blocks of a member, %d of the journal", c, l[3], l[4])
				}
				most = max(most, l[4])
			})
		}
	}
	if most != api.MaxBlocks {
		t.Errorf("the greatest journal has %d blocks", most)
	}
}

// P6.3: the ring, which is the journal but for its first block, has room for all of Heads stripes, and of one more; a ring of less may not be.
func TestRingHasRoom(t *testing.T) {
	for heads := api.MinHeads; heads <= api.MaxHeads; heads++ {
		for chunk := 1; chunk <= api.MaxChunk; chunk++ {
			each(heads, chunk, func(c api.Config) {
				l := ask(t, c)
				ring := l[4] - 1
				for range c.Heads + 1 {
					ring -= l[2]
				}
				if ring < 0 {
					t.Fatalf("%+v: a ring of %d, a need of %d", c, l[4]-1, l[2])
				}
				if c.Log -= ring + 1; Check(c) != api.ErrBad {
					t.Fatalf("%+v may be", c)
				}
			})
		}
	}
}

// P6.3: no two configs that may be, but for their Ids, have all five numbers, and Heads and Chunk, alike.
func TestNoTwoAlike(t *testing.T) {
	for heads := api.MinHeads; heads <= api.MaxHeads; heads++ {
		for chunk := 1; chunk <= api.MaxChunk; chunk++ {
			seen := map[five]api.Config{}
			each(heads, chunk, func(c api.Config) {
				l := ask(t, c)
				if other, ok := seen[l]; ok {
					t.Fatalf("%+v and %+v: both %v", c, other, l)
				}
				seen[l] = c
			})
		}
	}
}

// P6.2 and P6.3: the array's blocks and the parities are all that the members have beside their labels.
func TestBlocksAddUp(t *testing.T) {
	for heads := api.MinHeads; heads <= api.MaxHeads; heads++ {
		for chunk := 1; chunk <= api.MaxChunk; chunk++ {
			each(heads, chunk, func(c api.Config) {
				l := ask(t, c)
				if l[0]+l[1] != c.Members*(l[3]-1) || l[2] != c.Members+1 {
					t.Fatalf("%+v: %v", c, l)
				}
			})
		}
	}
}
