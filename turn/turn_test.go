package turn

import (
	"math"
	"testing"

	"freeboard/api"
)

// cell is what a member has of a stripe: a slot, and the block of the array there (none of the parity).
type cell struct {
	slot  int
	block int
}

// none is the parity's block.
const none = -1

// chapter is the config of the chapter's examples.
func chapter() api.Config {
	return api.Config{Members: 3, Chunk: 2, Rows: 3, Log: 12, Heads: 2}
}

// every goes through all members, chunks and rows that may be; heads and the ring make no difference.
func every(yield func(api.Config)) {
	for members := 3; members <= 16; members++ {
		for chunk := 1; chunk <= 8; chunk++ {
			for rows := 1; rows <= 8; rows++ {
				yield(api.Config{Id: 3, Members: members, Chunk: chunk, Rows: rows, Log: 255, Heads: 2})
			}
		}
	}
}

// drawn is the table of a config, by stripes and members, drawn by the chapter's words: it counts, and goes round, and reckons nothing.
func drawn(c api.Config) [][]cell {
	var all [][]cell
	first, parity := 0, c.Members-1
	for range c.Rows {
		row := make([][]cell, c.Chunk)
		for i := range row {
			row[i] = make([]cell, c.Members)
			row[i][parity] = cell{slot: c.Members - 1, block: none}
		}
		m := parity
		for slot := range c.Members - 1 {
			if m++; m == c.Members {
				m = 0
			}
			for i := range row {
				row[i][m] = cell{slot: slot, block: first}
				first++
			}
		}
		all = append(all, row...)
		if parity--; parity < 0 {
			parity = c.Members - 1
		}
	}
	return all
}

func spot(t *testing.T, c api.Config, block int) api.Spot {
	t.Helper()
	s, e := Spot(c, block)
	if e != api.OK {
		t.Fatalf("%+v: Spot(%d): error %d", c, block, e)
	}
	return s
}

func block(t *testing.T, c api.Config, stripe, slot int) int {
	t.Helper()
	b, e := Block(c, stripe, slot)
	if e != api.OK {
		t.Fatalf("%+v: Block(%d, %d): error %d", c, stripe, slot, e)
	}
	return b
}

func parity(t *testing.T, c api.Config, stripe int) int {
	t.Helper()
	m, e := Parity(c, stripe)
	if e != api.OK {
		t.Fatalf("%+v: Parity(%d): error %d", c, stripe, e)
	}
	return m
}

func member(t *testing.T, c api.Config, stripe, slot int) int {
	t.Helper()
	m, e := Member(c, stripe, slot)
	if e != api.OK {
		t.Fatalf("%+v: Member(%d, %d): error %d", c, stripe, slot, e)
	}
	return m
}

func slot(t *testing.T, c api.Config, stripe, member int) int {
	t.Helper()
	k, e := Slot(c, stripe, member)
	if e != api.OK {
		t.Fatalf("%+v: Slot(%d, %d): error %d", c, stripe, member, e)
	}
	return k
}

// wantNone asks that an answer is an error, and nothing beside it.
func wantNone(t *testing.T, what string, c api.Config, got any, e, want api.Errno) {
	t.Helper()
	if e != want || got != any(0) && got != any(api.Spot{}) {
		t.Fatalf("%+v: %s: %v, error %d, not %d", c, what, got, e, want)
	}
}

// refused asks all five calls of two numbers, and wants that error of each of them.
func refused(t *testing.T, c api.Config, n, m int, want api.Errno) {
	t.Helper()
	s, e := Spot(c, n)
	wantNone(t, "Spot", c, s, e, want)
	b, e := Block(c, n, m)
	wantNone(t, "Block", c, b, e, want)
	p, e := Parity(c, n)
	wantNone(t, "Parity", c, p, e, want)
	k, e := Member(c, n, m)
	wantNone(t, "Member", c, k, e, want)
	l, e := Slot(c, n, m)
	wantNone(t, "Slot", c, l, e, want)
}

// wild are numbers that no block, stripe, slot or member has.
func wild() []int {
	return []int{
		math.MinInt, math.MinInt + 1, math.MinInt / 2, math.MinInt32, -1 << 16, -256, -17, -16, -3, -2, -1,
		960, 961, 1 << 16, 1 << 31, 1 << 32, 1<<32 + 1, 1 << 62, math.MaxInt - 16, math.MaxInt - 1, math.MaxInt,
	}
}

// P7.1 and P7.2: the chapter's examples.
func TestExamples(t *testing.T) {
	c := chapter()
	for b, want := range map[int]api.Spot{
		0:  {Stripe: 0, Slot: 0, Member: 0},
		1:  {Stripe: 1, Slot: 0, Member: 0},
		2:  {Stripe: 0, Slot: 1, Member: 1},
		4:  {Stripe: 2, Slot: 0, Member: 2},
		11: {Stripe: 5, Slot: 1, Member: 2},
	} {
		if s := spot(t, c, b); s != want {
			t.Errorf("Spot(%d): %v, not %v", b, s, want)
		}
	}
	for s, want := range map[int]int{0: 2, 1: 2, 2: 1, 4: 0} {
		if m := parity(t, c, s); m != want {
			t.Errorf("Parity(%d): %d, not %d", s, m, want)
		}
	}
	if b, m, k := block(t, c, 2, 1), member(t, c, 2, 2), slot(t, c, 2, 0); b != 6 || m != 1 || k != 1 {
		t.Errorf("Block(2, 1), Member(2, 2), Slot(2, 0): %d, %d, %d", b, m, k)
	}
	s, e := Spot(c, 12)
	wantNone(t, "Spot(12)", c, s, e, api.ErrArg)
	n, e := Block(c, 0, 2)
	wantNone(t, "Block(0, 2)", c, n, e, api.ErrArg)
	n, e = Member(c, 0, 3)
	wantNone(t, "Member(0, 3)", c, n, e, api.ErrArg)
	n, e = Slot(c, 0, 3)
	wantNone(t, "Slot(0, 3)", c, n, e, api.ErrArg)
}

// P7.1 and P7.2: a table written out, four members with chunks of two, the parity come round to the last one again in the fifth row.
func TestWrittenOut(t *testing.T) {
	c := api.Config{Members: 4, Chunk: 2, Rows: 5, Log: 15, Heads: 2}
	for s, row := range [10][4]int{
		{0, 2, 4, none},
		{1, 3, 5, none},
		{8, 10, none, 6},
		{9, 11, none, 7},
		{16, none, 12, 14},
		{17, none, 13, 15},
		{none, 18, 20, 22},
		{none, 19, 21, 23},
		{24, 26, 28, none},
		{25, 27, 29, none},
	} {
		for m, b := range row {
			if b == none {
				if p := parity(t, c, s); p != m {
					t.Errorf("stripe %d: parity on %d, not %d", s, p, m)
				}
				continue
			}
			x := spot(t, c, b)
			if x.Stripe != s || x.Member != m || block(t, c, s, x.Slot) != b || slot(t, c, s, m) != x.Slot || member(t, c, s, x.Slot) != m {
				t.Errorf("block %d: %v, not stripe %d, member %d", b, x, s, m)
			}
		}
	}
}

// P7.1 and P7.2: all calls, at all that each array has, against the table drawn by the chapter's words.
func TestAllDrawn(t *testing.T) {
	every(func(c api.Config) {
		for s, row := range drawn(c) {
			for m, x := range row {
				if k := slot(t, c, s, m); k != x.slot {
					t.Fatalf("%+v: Slot(%d, %d): %d, not %d", c, s, m, k, x.slot)
				}
				if n := member(t, c, s, x.slot); n != m {
					t.Fatalf("%+v: Member(%d, %d): %d, not %d", c, s, x.slot, n, m)
				}
				if x.block == none {
					if p := parity(t, c, s); p != m {
						t.Fatalf("%+v: Parity(%d): %d, not %d", c, s, p, m)
					}
					continue
				}
				if b := block(t, c, s, x.slot); b != x.block {
					t.Fatalf("%+v: Block(%d, %d): %d, not %d", c, s, x.slot, b, x.block)
				}
				if y := spot(t, c, x.block); y != (api.Spot{Stripe: s, Slot: x.slot, Member: m}) {
					t.Fatalf("%+v: Spot(%d): %v, not %d %d %d", c, x.block, y, s, x.slot, m)
				}
			}
		}
	})
}

// P7.1 and P7.2: each number from far below to far beyond what there is, the other one being one there is: the first and the last are there, those beyond are ErrArg.
func TestEdges(t *testing.T) {
	every(func(c api.Config) {
		stripes := c.Chunk * c.Rows
		blocks := stripes * (c.Members - 1)
		wants := func(many, n int) api.Errno {
			if n < 0 || n >= many {
				return api.ErrArg
			}
			return api.OK
		}
		ask := func(what string, many int, f func(int) (int, api.Errno)) {
			for _, n := range append(wild(), 0, 1, many-2, many-1, many, many+1) {
				got, e := f(n)
				if want := wants(many, n); e != want || e != api.OK && got != 0 {
					t.Fatalf("%+v: %s of %d: %d, error %d, not %d", c, what, n, got, e, want)
				}
			}
		}
		for _, n := range append(wild(), 0, 1, blocks-2, blocks-1, blocks, blocks+1) {
			s, e := Spot(c, n)
			if want := wants(blocks, n); e != want || e != api.OK && s != (api.Spot{}) {
				t.Fatalf("%+v: Spot(%d): %v, error %d, not %d", c, n, s, e, want)
			}
		}
		ask("Parity", stripes, func(n int) (int, api.Errno) { return Parity(c, n) })
		for _, other := range []int{0, c.Members - 2} {
			ask("Block's stripe", stripes, func(n int) (int, api.Errno) { return Block(c, n, other) })
		}
		for _, other := range []int{0, c.Members - 1} {
			ask("Member's stripe", stripes, func(n int) (int, api.Errno) { return Member(c, n, other) })
			ask("Slot's stripe", stripes, func(n int) (int, api.Errno) { return Slot(c, n, other) })
		}
		for _, other := range []int{0, stripes - 1} {
			ask("Block's slot", c.Members-1, func(n int) (int, api.Errno) { return Block(c, other, n) })
			ask("Member's slot", c.Members, func(n int) (int, api.Errno) { return Member(c, other, n) })
			ask("Slot's member", c.Members, func(n int) (int, api.Errno) { return Slot(c, other, n) })
		}
	})
}

// P7.1 and P7.2: both numbers are none that there is.
func TestBothWild(t *testing.T) {
	for _, c := range []api.Config{chapter(), {Members: 16, Chunk: 8, Rows: 8, Log: 255, Heads: 8}, {Members: 3, Chunk: 1, Rows: 1, Log: 12, Heads: 2}} {
		for _, n := range wild() {
			for _, m := range wild() {
				refused(t, c, n, m, api.ErrArg)
			}
		}
	}
}

// P7.1 and P7.2: shape.Check's error comes first, whether there would be such numbers or not.
func TestConfigFirst(t *testing.T) {
	for _, c := range []api.Config{
		{},
		{Members: 2, Chunk: 2, Rows: 3, Log: 12, Heads: 2},
		{Members: 17, Chunk: 2, Rows: 3, Log: 255, Heads: 2},
		{Members: 3, Chunk: 0, Rows: 3, Log: 12, Heads: 2},
		{Members: 3, Chunk: 9, Rows: 3, Log: 12, Heads: 2},
		{Members: 3, Chunk: 2, Rows: 0, Log: 12, Heads: 2},
		{Members: 3, Chunk: 2, Rows: 9, Log: 12, Heads: 2},
		{Members: 3, Chunk: 2, Rows: 3, Log: 11, Heads: 2},
		{Members: 3, Chunk: 2, Rows: 3, Log: 256, Heads: 2},
		{Members: 3, Chunk: 2, Rows: 3, Log: 12, Heads: 1},
		{Members: 3, Chunk: 2, Rows: 3, Log: 255, Heads: 9},
		{Members: 0, Chunk: 2, Rows: 3, Log: 12, Heads: 2},
		{Members: 1, Chunk: 2, Rows: 3, Log: 12, Heads: 2},
		{Members: -1, Chunk: -1, Rows: -1, Log: -1, Heads: -1},
		{Members: math.MinInt, Chunk: math.MinInt, Rows: math.MinInt, Log: math.MinInt, Heads: math.MinInt},
		{Members: math.MaxInt, Chunk: math.MaxInt, Rows: math.MaxInt, Log: math.MaxInt, Heads: math.MaxInt},
	} {
		for _, n := range append(wild(), 0, 1, 2) {
			for _, m := range append(wild(), 0, 1, 2) {
				refused(t, c, n, m, api.ErrBad)
			}
		}
	}
}

// P7.1 and P7.2: the Id, the heads and the ring change nothing.
func TestRestIsNothing(t *testing.T) {
	for _, c := range []api.Config{
		{Id: math.MaxUint32, Members: 3, Chunk: 2, Rows: 3, Log: 12, Heads: 2},
		{Id: 1, Members: 3, Chunk: 2, Rows: 3, Log: 255, Heads: 2},
		{Id: 7, Members: 3, Chunk: 2, Rows: 3, Log: 36, Heads: 8},
	} {
		for s, row := range drawn(chapter()) {
			for m, x := range row {
				if slot(t, c, s, m) != x.slot || member(t, c, s, x.slot) != m {
					t.Fatalf("%+v: stripe %d, member %d", c, s, m)
				}
				if x.block != none && (block(t, c, s, x.slot) != x.block || spot(t, c, x.block).Stripe != s) {
					t.Fatalf("%+v: block %d", c, x.block)
				}
			}
		}
	}
}

// P7.3: each block stands in one slot of one stripe, and each slot is one block's.
func TestOneToOne(t *testing.T) {
	every(func(c api.Config) {
		stripes := c.Chunk * c.Rows
		seen := map[[2]int]bool{}
		for b := range stripes * (c.Members - 1) {
			s := spot(t, c, b)
			at := [2]int{s.Stripe, s.Slot}
			if seen[at] || block(t, c, s.Stripe, s.Slot) != b || member(t, c, s.Stripe, s.Slot) != s.Member {
				t.Fatalf("%+v: block %d: %v", c, b, s)
			}
			seen[at] = true
		}
		told := map[int]bool{}
		for s := range stripes {
			for k := range c.Members - 1 {
				b := block(t, c, s, k)
				if x := spot(t, c, b); told[b] || x.Stripe != s || x.Slot != k || !seen[[2]int{s, k}] {
					t.Fatalf("%+v: slot %d of stripe %d: block %d", c, k, s, b)
				}
				told[b] = true
			}
		}
		if len(seen) != len(told) || len(seen) != stripes*(c.Members-1) {
			t.Fatalf("%+v: %d spots, %d blocks", c, len(seen), len(told))
		}
	})
}

// P7.3: each member has one slot of each stripe, or its parity.
func TestEachMemberHasOne(t *testing.T) {
	every(func(c api.Config) {
		for s := range c.Chunk * c.Rows {
			seen := map[int]bool{}
			for m := range c.Members {
				k := slot(t, c, s, m)
				if seen[k] || member(t, c, s, k) != m || (k == c.Members-1) != (m == parity(t, c, s)) {
					t.Fatalf("%+v: stripe %d: member %d has slot %d", c, s, m, k)
				}
				seen[k] = true
			}
			if len(seen) != c.Members || member(t, c, s, c.Members-1) != parity(t, c, s) {
				t.Fatalf("%+v: stripe %d: %d slots", c, s, len(seen))
			}
		}
	})
}

// P7.3: chunk j is on the member that is what is left of j by N; each of its blocks is, one stripe behind the other.
func TestChunksFollow(t *testing.T) {
	every(func(c api.Config) {
		m := 0
		for chunk := range c.Rows * (c.Members - 1) {
			if m == c.Members {
				m = 0
			}
			first := spot(t, c, chunk*c.Chunk)
			for deep := range c.Chunk {
				if s := spot(t, c, chunk*c.Chunk+deep); s != (api.Spot{Stripe: first.Stripe + deep, Slot: first.Slot, Member: m}) {
					t.Fatalf("%+v: block %d of chunk %d: %v, not on member %d", c, deep, chunk, s, m)
				}
			}
			m++
		}
	})
}

// P7.3: of N rows in a row each member has the parity once; all stripes of a row have theirs on one member.
func TestParityGoesRound(t *testing.T) {
	every(func(c api.Config) {
		var rows []int
		for row := range c.Rows {
			p := parity(t, c, row*c.Chunk)
			for deep := range c.Chunk {
				if parity(t, c, row*c.Chunk+deep) != p {
					t.Fatalf("%+v: row %d has more than one parity's member", c, row)
				}
			}
			rows = append(rows, p)
		}
		for from := range rows {
			seen := map[int]bool{}
			for _, p := range rows[from:min(from+c.Members, len(rows))] {
				if seen[p] {
					t.Fatalf("%+v: from row %d on: member %d has the parity again in %v", c, from, p, rows)
				}
				seen[p] = true
			}
		}
	})
}

// P7.1 and P7.2: a call is answered the same again, whatever was asked between.
func TestNothingIsKept(t *testing.T) {
	c := api.Config{Members: 5, Chunk: 1, Rows: 6, Log: 18, Heads: 2}
	for range 3 {
		if s := spot(t, c, 9); s != (api.Spot{Stripe: 2, Slot: 1, Member: 4}) {
			t.Errorf("Spot(9): %v", s)
		}
		if b, p := block(t, c, 4, 3), parity(t, c, 5); b != 19 || p != 4 {
			t.Errorf("Block(4, 3), Parity(5): %d, %d", b, p)
		}
		refused(t, c, -1, 0, api.ErrArg)
		refused(t, api.Config{}, 0, 0, api.ErrBad)
	}
}
