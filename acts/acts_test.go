package acts

import (
	"bytes"
	"math"
	"slices"
	"testing"

	"freeboard/api"
	"freeboard/disk"
)

// most is how many devices there may be: all members, and the journal.
const most = 17

// mixed are n bytes without a short rule that a reader would see, others for each seed.
func mixed(seed uint32, n int) []byte {
	b := make([]byte, n)
	x := seed*2654435761 + 1
	for i := range b {
		x = x*1664525 + 1013904223
		b[i] = byte(x >> 24)
	}
	return b
}

// of is a block of one byte over and over.
func of(x byte) []byte {
	return bytes.Repeat([]byte{x}, api.Size)
}

// laden is a device of so many blocks, on which so many writes wait, of some places often and of others never; some of both are none.
func laden(seed uint32, places, waits int) api.Disk {
	d := api.Disk{Blocks: make([][]byte, places), Wait: make([]api.Write, waits)}
	for i := range d.Blocks {
		switch i % 6 {
		case 2:
		case 5:
			d.Blocks[i] = []byte{}
		default:
			d.Blocks[i] = mixed(seed+uint32(i), api.Size)
		}
	}
	for i, x := range mixed(seed, waits) {
		d.Wait[i].At = int(x) % 5 * (places - 1) / 4
		if i%5 != 3 {
			d.Wait[i].Data = mixed(seed+1000+uint32(i), api.Size)
		}
	}
	return d
}

// dead is a device of so many blocks that has died.
func dead(places int) api.Disk {
	return api.Disk{Blocks: make([][]byte, places), Dead: true}
}

// two are devices of two blocks, as the chapter's examples have them.
func two() []api.Disk {
	return []api.Disk{{Blocks: make([][]byte, 2)}, {Blocks: make([][]byte, 2)}}
}

// houses are all kinds of devices that may be, but for great ones.
func houses() [][]api.Disk {
	all := make([]api.Disk, most)
	for i := range all {
		all[i] = laden(uint32(i), 1+i%4, i%7)
	}
	all[3], all[16] = dead(4), dead(1)
	return [][]api.Disk{
		{{Blocks: make([][]byte, 1)}},
		{dead(1)},
		{dead(3), dead(1)},
		two(),
		{laden(1, 1, 0), dead(2), laden(2, 3, 9)},
		{laden(3, 2, 2), laden(4, 3, 3), laden(5, 1, 1), laden(6, 9, 0)},
		{dead(1), laden(7, 2, 5), laden(8, 2, 0), laden(9, 2, 4)},
		all,
	}
}

// greatHouses are those of blocks, and writes that wait, as many as may be.
func greatHouses() [][]api.Disk {
	full := make([]api.Disk, most)
	for i := range full {
		full[i] = api.Disk{Blocks: make([][]byte, 1), Wait: make([]api.Write, api.MaxWaits)}
	}
	return [][]api.Disk{
		{laden(1, api.MaxBlocks, api.MaxWaits)},
		{laden(2, 3, api.MaxWaits-1), dead(api.MaxBlocks), laden(3, api.MaxBlocks, 1)},
		full,
	}
}

// noDevices are devices that may not be, each for one cause alone.
func noDevices() []api.Disk {
	return []api.Disk{
		{},
		{Dead: true},
		{Blocks: make([][]byte, api.MaxBlocks+1)},
		{Blocks: [][]byte{nil, {1}}},
		{Blocks: [][]byte{make([]byte, api.Size+1), nil}},
		{Blocks: make([][]byte, 2), Wait: make([]api.Write, api.MaxWaits+1)},
		{Blocks: make([][]byte, 2), Wait: []api.Write{{At: 2}}},
		{Blocks: make([][]byte, 2), Wait: []api.Write{{}, {At: -1}}},
		{Blocks: make([][]byte, 2), Wait: []api.Write{{Data: make([]byte, api.Size-1)}}},
		{Blocks: make([][]byte, 2), Wait: make([]api.Write, 1), Dead: true},
		{Blocks: [][]byte{nil, of(0)}, Dead: true},
	}
}

// noHouses are all kinds of devices that may not be.
func noHouses() [][]api.Disk {
	many := func(n int) []api.Disk { return slices.Repeat([]api.Disk{{Blocks: make([][]byte, 2)}}, n) }
	l := [][]api.Disk{nil, {}, many(most + 1), many(1 << 10), slices.Repeat([]api.Disk{dead(2)}, most+1)}
	for _, d := range noDevices() {
		l = append(l, []api.Disk{d})
		for _, at := range []int{0, 1, 8, most - 1} {
			house := many(most)
			house[at] = d
			l = append(l, house)
		}
	}
	return l
}

// script are n acts that may be, for devices, of all kinds, to all of them.
func script(seed uint32, disks []api.Disk, n int) []api.Act {
	l := make([]api.Act, n)
	b := mixed(seed, 4*n)
	for i := range l {
		on := int(b[4*i]) % len(disks)
		l[i] = api.Act{Disk: on, Kind: []uint8{api.ActFlush, api.ActFua, api.ActFua, api.ActWrite, api.ActWrite, api.ActWrite, api.ActWrite}[b[4*i+1]%7]}
		if l[i].Kind == api.ActFlush {
			continue
		}
		l[i].At = int(b[4*i+2]) % len(disks[on].Blocks)
		switch b[4*i+3] % 5 {
		case 0:
		case 1:
			l[i].Data = []byte{}
		default:
			l[i].Data = mixed(seed+uint32(i), api.Size)
		}
	}
	return l
}

// noActs are acts that may not be for devices, each for one cause alone.
func noActs(disks []api.Disk) []api.Act {
	var l []api.Act
	for _, n := range []int{-1, len(disks), len(disks) + 1, most, 1 << 32, math.MinInt, math.MaxInt} {
		if n >= 0 && n < len(disks) {
			continue
		}
		l = append(l, api.Act{Disk: n, Kind: api.ActWrite}, api.Act{Disk: n, Kind: api.ActFua}, api.Act{Disk: n, Kind: api.ActFlush})
	}
	for k := range 256 {
		if k < int(api.ActWrite) || k > int(api.ActFlush) {
			l = append(l, api.Act{Kind: uint8(k)})
		}
	}
	for i, d := range disks {
		for _, at := range []int{-1, len(d.Blocks), len(d.Blocks) + 1, 1 << 32, math.MinInt, math.MaxInt} {
			l = append(l, api.Act{Disk: i, Kind: api.ActWrite, At: at}, api.Act{Disk: i, Kind: api.ActFua, At: at, Data: of(1)})
			l = append(l, api.Act{Disk: i, Kind: api.ActFlush, At: at})
		}
		for _, n := range []int{1, api.Size - 1, api.Size + 1, 2 * api.Size} {
			l = append(l, api.Act{Disk: i, Kind: api.ActWrite, Data: make([]byte, n)}, api.Act{Disk: i, Kind: api.ActFua, Data: make([]byte, n)})
		}
		for _, n := range []int{1, api.Size} {
			l = append(l, api.Act{Disk: i, Kind: api.ActFlush, Data: make([]byte, n)})
		}
		if len(d.Blocks) > 1 {
			l = append(l, api.Act{Disk: i, Kind: api.ActFlush, At: 1})
		}
	}
	return l
}

// whole is a block's bytes as the words have them: none is one of noughts.
func whole(block []byte) []byte {
	if len(block) == 0 {
		return of(0)
	}
	return block
}

// readAt is what is read at a place by the words: the block, and over it each write of it that waits, in order.
func readAt(d api.Disk, at int) []byte {
	b := d.Blocks[at]
	for _, w := range d.Wait {
		if w.At == at {
			b = w.Data
		}
	}
	return whole(b)
}

// settled turns a device by the words: of what waits that which is kept stands in its block, and nothing waits.
func settled(d *api.Disk, kept func(int) bool) {
	for i, w := range d.Wait {
		if kept(i) {
			d.Blocks[w.At] = w.Data
		}
	}
	d.Wait = nil
}

// did turns a device by the words of an act, without the package's own code; it tells whether there was room.
func did(d *api.Disk, a api.Act) bool {
	switch {
	case d.Dead:
	case a.Kind == api.ActFlush:
		settled(d, func(int) bool { return true })
	case a.Kind == api.ActFua:
		var rest []api.Write
		for _, w := range d.Wait {
			if w.At != a.At {
				rest = append(rest, w)
			}
		}
		d.Blocks[a.At], d.Wait = a.Data, rest
	case len(d.Wait) == api.MaxWaits:
		return false
	default:
		d.Wait = append(d.Wait, api.Write{At: a.At, Data: a.Data})
	}
	return true
}

// behind are devices behind acts, by the words.
func behind(disks []api.Disk, l []api.Act) []api.Disk {
	out := copied(disks)
	for _, a := range l {
		did(&out[a.Disk], a)
	}
	return out
}

// crashedByWords are devices behind a crash; the mark of a write is the one at its place, as all that wait are counted.
func crashedByWords(disks []api.Disk, keep []bool) []api.Disk {
	out := copied(disks)
	count := 0
	for i := range out {
		first := count
		count += len(out[i].Wait)
		settled(&out[i], func(k int) bool { return first+k < len(keep) && keep[first+k] })
	}
	return out
}

// equal tells, byte by byte, whether devices are the same to the letter, but that lists that are nil and those that are empty are the same.
func equal(a, b []api.Disk) bool {
	return slices.EqualFunc(a, b, func(a, b api.Disk) bool {
		return a.Dead == b.Dead && slices.EqualFunc(a.Blocks, b.Blocks, bytes.Equal) &&
			slices.EqualFunc(a.Wait, b.Wait, func(v, w api.Write) bool { return v.At == w.At && bytes.Equal(v.Data, w.Data) })
	})
}

// equalActs tells likewise of acts.
func equalActs(a, b []api.Act) bool {
	return slices.EqualFunc(a, b, func(a, b api.Act) bool {
		return a.Disk == b.Disk && a.Kind == b.Kind && a.At == b.At && bytes.Equal(a.Data, b.Data)
	})
}

// roomy is bytes in new memory with others behind them in what has room.
func roomy(b []byte) []byte {
	return append(bytes.Clone(b), mixed(99, 5)...)[:len(b)]
}

// copied are devices in new memory, with room behind all lists; all in that room is told by untouched.
func copied(disks []api.Disk) []api.Disk {
	l := make([]api.Disk, len(disks), len(disks)+3)
	for i, d := range disks {
		l[i] = api.Disk{Blocks: make([][]byte, len(d.Blocks), len(d.Blocks)+3), Wait: make([]api.Write, len(d.Wait), len(d.Wait)+3), Dead: d.Dead}
		for k, b := range d.Blocks {
			l[i].Blocks[k] = roomy(b)
		}
		for k, w := range d.Wait {
			l[i].Wait[k] = api.Write{At: w.At, Data: roomy(w.Data)}
		}
	}
	return l
}

// copiedActs are acts in new memory, with room behind them and behind their bytes.
func copiedActs(l []api.Act) []api.Act {
	c := make([]api.Act, len(l), len(l)+3)
	for i, a := range l {
		c[i] = a
		c[i].Data = roomy(a.Data)
	}
	return c
}

// lists are all lists of bytes of devices and of acts.
func lists(disks []api.Disk, acts []api.Act) [][]byte {
	var l [][]byte
	for _, d := range disks {
		l = append(l, d.Blocks...)
		for _, w := range d.Wait {
			l = append(l, w.Data)
		}
	}
	for _, a := range acts {
		l = append(l, a.Data)
	}
	return l
}

// untouched tells whether all that has room behind it, in what copied and copiedActs made, still has there what they made.
func untouched(disks []api.Disk, acts []api.Act) bool {
	for _, b := range lists(disks, acts) {
		if !bytes.Equal(b[:cap(b)][len(b):len(b)+5], mixed(99, 5)) {
			return false
		}
	}
	for _, d := range disks {
		for _, b := range d.Blocks[len(d.Blocks):cap(d.Blocks)] {
			if b != nil {
				return false
			}
		}
		for _, w := range d.Wait[len(d.Wait):cap(d.Wait)] {
			if w.At != 0 || w.Data != nil {
				return false
			}
		}
	}
	for _, d := range disks[len(disks):cap(disks)] {
		if d.Blocks != nil || d.Wait != nil || d.Dead {
			return false
		}
	}
	return !slices.ContainsFunc(acts[len(acts):cap(acts)], func(a api.Act) bool { return a.Kind != 0 || a.Data != nil })
}

// turn turns all that devices and acts have in memory: all bytes, with those that have room behind them, and then the lists' own places, with the room behind these.
func turn(disks []api.Disk, acts []api.Act) {
	for _, b := range lists(disks, acts) {
		b = b[:cap(b)]
		for i := range b {
			b[i] ^= 255
		}
	}
	for _, d := range disks {
		for i := range d.Blocks[:cap(d.Blocks)] {
			d.Blocks[:cap(d.Blocks)][i] = of(77)
		}
		for i := range d.Wait[:cap(d.Wait)] {
			d.Wait[:cap(d.Wait)][i] = api.Write{At: 77, Data: of(77)}
		}
	}
	for i := range disks[:cap(disks)] {
		disks[:cap(disks)][i] = dead(77)
	}
	for i := range acts[:cap(acts)] {
		acts[:cap(acts)][i] = api.Act{Disk: 77, Kind: 77, At: 77, Data: of(77)}
	}
}

// must passes on devices that were answered without an error, and may be.
func must(t *testing.T) func([]api.Disk, api.Errno) []api.Disk {
	return func(disks []api.Disk, e api.Errno) []api.Disk {
		t.Helper()
		if e != api.OK || Check(nil, disks) != api.OK {
			t.Fatalf("error %d, check %d", e, Check(nil, disks))
		}
		return disks
	}
}

// wantDisks asks for devices to the letter.
func wantDisks(t *testing.T, name string, w []api.Disk) func([]api.Disk, api.Errno) {
	return func(disks []api.Disk, e api.Errno) {
		t.Helper()
		if e != api.OK || !equal(disks, w) {
			t.Errorf("%s: error %d, %d of %d devices: other ones", name, e, len(disks), len(w))
		}
	}
}

// wantError asks for an error, and no devices beside it.
func wantError(t *testing.T, name string, w api.Errno) func([]api.Disk, api.Errno) {
	return func(disks []api.Disk, e api.Errno) {
		t.Helper()
		if e != w || disks != nil {
			t.Errorf("%s: error %d, not %d, and %d devices", name, e, w, len(disks))
		}
	}
}

// wantCheck asks Check.
func wantCheck(t *testing.T, name string, l []api.Act, disks []api.Disk, w api.Errno) {
	t.Helper()
	if e := Check(l, disks); e != w {
		t.Errorf("%s: error %d, not %d", name, e, w)
	}
}

// wantWaits asks Waits.
func wantWaits(t *testing.T, name string, disks []api.Disk, w int, we api.Errno) {
	t.Helper()
	if n, e := Waits(disks); n != w || e != we {
		t.Errorf("%s: %d wait, error %d, not %d and %d", name, n, e, w, we)
	}
}

// wantLasting asks for what lasts at a place of a device.
func wantLasting(t *testing.T, name string, d api.Disk, at int, w []byte) {
	t.Helper()
	if b, e := disk.Lasting(d, at); e != api.OK || !bytes.Equal(b, w) {
		t.Errorf("%s: lasting at %d: error %d, %v, not %v", name, at, e, b, w)
	}
}

// P5.1 to P5.3: the chapter's examples.
func TestExamples(t *testing.T) {
	x := of(120)
	l := []api.Act{{Kind: api.ActWrite, At: 1, Data: x}, {Kind: api.ActFlush}}
	one := must(t)(Run(two(), l, 1))
	wantWaits(t, "n 1", one, 1, api.OK)
	wantWaits(t, "n 2", must(t)(Run(two(), l, 2)), 0, api.OK)
	wantLasting(t, "n 2", must(t)(Run(two(), l, 2))[0], 1, x)
	wantLasting(t, "marks true", must(t)(Crash(one, []bool{true}))[0], 1, x)
	wantLasting(t, "marks false", must(t)(Crash(one, []bool{false}))[0], 1, of(0))
	wantLasting(t, "no marks", must(t)(Crash(one, nil))[0], 1, of(0))
	wantError(t, "two marks", api.ErrArg)(Crash(one, make([]bool, 2)))
	wantError(t, "n 3", api.ErrArg)(Run(two(), l, 3))
	wantError(t, "device 2", api.ErrArg)(Run(two(), []api.Act{{Disk: 2, Kind: api.ActFlush}}, 1))
	gone := []api.Disk{dead(2), {Blocks: make([][]byte, 2)}}
	wantDisks(t, "dead", gone)(Run(gone, l[:1], 1))
}

// P5.1: all kinds of acts, and as many as may be.
func TestCheck(t *testing.T) {
	for k, disks := range append(houses(), greatHouses()...) {
		for _, n := range []int{0, 1, 2, 99, api.MaxActs - 1, api.MaxActs} {
			wantCheck(t, "acts", script(uint32(k), disks, n), disks, api.OK)
		}
		wantCheck(t, "none", []api.Act{}, disks, api.OK)
		for i, d := range disks {
			at := len(d.Blocks) - 1
			for _, data := range [][]byte{nil, {}, of(0), of(1), mixed(1, 2*api.Size)[:api.Size]} {
				wantCheck(t, "the last place", []api.Act{{Disk: i, Kind: api.ActWrite, At: at, Data: data}, {Disk: i, Kind: api.ActFua, At: at, Data: data}}, disks, api.OK)
			}
			wantCheck(t, "flush", []api.Act{{Disk: i, Kind: api.ActFlush, Data: []byte{}}}, disks, api.OK)
		}
	}
}

// P5.1: devices that may not be are ErrBad, whatever the acts are.
func TestCheckDevices(t *testing.T) {
	for _, disks := range noHouses() {
		wantCheck(t, "no acts", nil, disks, api.ErrBad)
		wantCheck(t, "no act", []api.Act{{}}, disks, api.ErrBad)
		wantCheck(t, "flush", []api.Act{{Kind: api.ActFlush}}, disks, api.ErrBad)
		wantCheck(t, "many", make([]api.Act, api.MaxActs+1), disks, api.ErrBad)
	}
}

// P5.1: more acts than may be are ErrMany, whatever they are.
func TestCheckMany(t *testing.T) {
	for _, disks := range houses() {
		for _, n := range []int{api.MaxActs + 1, 2 * api.MaxActs, 1 << 16} {
			wantCheck(t, "many", script(1, disks, n), disks, api.ErrMany)
			wantCheck(t, "many that may not be", make([]api.Act, n), disks, api.ErrMany)
		}
	}
}

// P5.1: one act that may not be is ErrArg, wherever it stands.
func TestCheckActs(t *testing.T) {
	for _, disks := range houses() {
		for _, a := range noActs(disks) {
			wantCheck(t, "alone", []api.Act{a}, disks, api.ErrArg)
			for _, at := range []int{0, 2, 4} {
				l := script(1, disks, 5)
				l[at] = a
				wantCheck(t, "among others", l, disks, api.ErrArg)
			}
		}
		l := script(2, disks, api.MaxActs)
		l[api.MaxActs-1].Kind = 0
		wantCheck(t, "the last one", l, disks, api.ErrArg)
	}
}

// P5.1: each device's own places count, not those of others.
func TestCheckPlacesOfEach(t *testing.T) {
	disks := []api.Disk{laden(1, 1, 0), laden(2, 5, 0), dead(3)}
	for i, d := range disks {
		for at := -2; at < 8; at++ {
			w := api.ErrArg
			if at >= 0 && at < len(d.Blocks) {
				w = api.OK
			}
			wantCheck(t, "write", []api.Act{{Disk: i, Kind: api.ActWrite, At: at}}, disks, w)
			wantCheck(t, "fua", []api.Act{{Disk: i, Kind: api.ActFua, At: at, Data: of(1)}}, disks, w)
		}
	}
}

// wantSame asks Same both ways.
func wantSame(t *testing.T, name string, a, b []api.Act, w bool) {
	t.Helper()
	if Same(a, b) != w || Same(b, a) != w {
		t.Errorf("%s: %t and %t, not %t", name, Same(a, b), Same(b, a), w)
	}
}

// P5.1: acts are the same as themselves in other memory, those that may not be, too; with any field another one they are not.
func TestSame(t *testing.T) {
	turns := []func(*api.Act){
		func(a *api.Act) { a.Disk++ },
		func(a *api.Act) { a.Disk -= 256 },
		func(a *api.Act) { a.Kind++ },
		func(a *api.Act) { a.Kind ^= 128 },
		func(a *api.Act) { a.At-- },
		func(a *api.Act) { a.At += 256 },
		func(a *api.Act) { a.Data = append(bytes.Clone(a.Data), 0) },
		func(a *api.Act) { a.Data = append([]byte{1}, a.Data...) },
	}
	for seed := range uint32(9) {
		for _, l := range [][]api.Act{script(seed, houses()[4], 1+int(seed)), noActs(houses()[4])[:20], {{Data: of(1)}, {Disk: math.MinInt, Kind: 255, At: math.MaxInt, Data: of(2)[:9]}}} {
			wantSame(t, "itself", l, l, true)
			wantSame(t, "copied", l, copiedActs(l), true)
			wantSame(t, "one less", l, l[1:], false)
			wantSame(t, "one more", l, append(copiedActs(l), api.Act{}), false)
			wantSame(t, "nothing", l, nil, false)
			for at := range l {
				for k, f := range turns {
					c := copiedActs(l)
					f(&c[at])
					if Same(l, c) || Same(c, l) {
						t.Errorf("turn %d of act %d of %d: the same", k, at, len(l))
					}
				}
			}
		}
	}
	wantSame(t, "nothing", nil, []api.Act{}, true)
}

// P5.1: none is not Size noughts, nor another count of them; each byte counts, and the order of acts.
func TestSameData(t *testing.T) {
	for _, none := range [][]byte{nil, {}, mixed(1, 9)[:0]} {
		a := []api.Act{{Kind: api.ActWrite, Data: none}}
		wantSame(t, "none", a, []api.Act{{Kind: api.ActWrite}}, true)
		wantSame(t, "noughts", a, []api.Act{{Kind: api.ActWrite, Data: of(0)}}, false)
		wantSame(t, "a nought", a, []api.Act{{Kind: api.ActWrite, Data: []byte{0}}}, false)
	}
	for i := range api.Size {
		b := of(3)
		b[i] ^= 1
		wantSame(t, "a byte", []api.Act{{Data: of(3)}}, []api.Act{{Data: b}}, false)
	}
	v, w := api.Act{Data: of(1)}, api.Act{Data: of(2)}
	wantSame(t, "order", []api.Act{v, w}, []api.Act{w, v}, false)
	wantSame(t, "once and twice", []api.Act{v, v}, []api.Act{v}, false)
}

// P5.2: the devices are by the words behind each n of the acts; those behind n aren't done.
func TestRun(t *testing.T) {
	for k, disks := range houses() {
		for seed := range uint32(4) {
			l := script(seed+10*uint32(k), disks, 30)
			for n := range len(l) + 1 {
				wantDisks(t, "run", behind(disks, l[:n]))(Run(disks, l, n))
			}
		}
		wantDisks(t, "nothing", disks)(Run(disks, nil, 0))
	}
}

// P5.2: as many acts as may be, and as many blocks and writes that wait.
func TestRunGreat(t *testing.T) {
	for k, disks := range append(houses(), greatHouses()[1:2]...) {
		l := script(uint32(k), disks, api.MaxActs)
		// Flushes are put in so often that none is full.
		for i := 0; i < len(l); i += 50 {
			l[i] = api.Act{Disk: 0, Kind: api.ActFlush}
		}
		wantDisks(t, "all", behind(disks, l))(Run(disks, l, len(l)))
	}
}

// P5.2: each kind is done to its own device alone.
func TestRunEachKind(t *testing.T) {
	disks := []api.Disk{laden(1, 2, 4), laden(2, 2, 4), laden(3, 2, 4)}
	for i := range disks {
		for _, a := range []api.Act{
			{Disk: i, Kind: api.ActWrite, At: 1, Data: of(7)},
			{Disk: i, Kind: api.ActWrite, At: 0},
			{Disk: i, Kind: api.ActFua, At: 0, Data: of(8)},
			{Disk: i, Kind: api.ActFua, At: 1},
			{Disk: i, Kind: api.ActFlush},
		} {
			w := copied(disks)
			did(&w[i], a)
			wantDisks(t, "one act", w)(Run(disks, []api.Act{a}, 1))
			if equal(w, disks) {
				t.Error("this act turns nothing")
			}
		}
	}
}

// P5.2: what is done to one that is dead is nothing, and no error, however often.
func TestRunDead(t *testing.T) {
	disks := []api.Disk{dead(2), laden(1, 2, 3)}
	for _, a := range []api.Act{{Kind: api.ActWrite, At: 1, Data: of(1)}, {Kind: api.ActFua, At: 1, Data: of(1)}, {Kind: api.ActFlush}} {
		l := slices.Repeat([]api.Act{a}, api.MaxActs)
		wantDisks(t, "dead", disks)(Run(disks, l, api.MaxActs))
	}
	disks[0] = dead(1)
	wantError(t, "no place of a dead one", api.ErrArg)(Run(disks, []api.Act{{Kind: api.ActWrite, At: 1}}, 1))
}

// P5.2: Check's error comes first, of acts that aren't done, too; then n is asked.
func TestRunRefused(t *testing.T) {
	counts := []int{-1, 6, 7, 1 << 32, math.MinInt, math.MaxInt}
	for _, disks := range noHouses() {
		for _, n := range append(counts, 0, 1) {
			wantError(t, "no devices", api.ErrBad)(Run(disks, nil, n))
			wantError(t, "no devices, no act", api.ErrBad)(Run(disks, make([]api.Act, 1), n))
			wantError(t, "no devices, many", api.ErrBad)(Run(disks, make([]api.Act, api.MaxActs+1), n))
		}
	}
	for _, disks := range houses() {
		l := script(3, disks, 5)
		many := script(3, disks, api.MaxActs+1)
		for _, n := range counts {
			wantError(t, "n", api.ErrArg)(Run(disks, l, n))
			wantError(t, "many", api.ErrMany)(Run(disks, many, n))
		}
		wantError(t, "n of nothing", api.ErrArg)(Run(disks, nil, 1))
		wantError(t, "many, none done", api.ErrMany)(Run(disks, many, 0))
		for _, a := range noActs(disks) {
			l[4] = a
			for n := range len(l) + 1 {
				wantError(t, "an act", api.ErrArg)(Run(disks, l, n))
			}
		}
	}
}

// P5.2: a write to one on which MaxWaits wait is ErrFull, at that act and not ahead of it; other kinds and other devices have room.
func TestRunFull(t *testing.T) {
	full := []api.Disk{laden(1, 3, api.MaxWaits), laden(2, 3, 0), dead(3)}
	w := api.Act{Kind: api.ActWrite, At: 2, Data: of(1)}
	room := func(a api.Act) {
		t.Helper()
		wantDisks(t, "room", behind(full, []api.Act{a, w}))(Run(full, []api.Act{a, w}, 2))
	}
	wantError(t, "full", api.ErrFull)(Run(full, []api.Act{w}, 1))
	wantError(t, "full", api.ErrFull)(Run(full, []api.Act{w, w}, 1))
	wantError(t, "n is asked first", api.ErrArg)(Run(full, []api.Act{w}, 2))
	wantDisks(t, "not done", full)(Run(full, []api.Act{w}, 0))
	room(api.Act{Kind: api.ActFlush})
	room(api.Act{Kind: api.ActFua, At: full[0].Wait[0].At})
	l := []api.Act{{Disk: 1, Kind: api.ActWrite, At: 1}, {Disk: 2, Kind: api.ActWrite, At: 1}, {Disk: 1, Kind: api.ActFlush}, w}
	wantDisks(t, "others have room", behind(full, l[:3]))(Run(full, l, 3))
	wantError(t, "behind others", api.ErrFull)(Run(full, l, 4))
}

// P5.2: as many writes wait as may, and not one more.
func TestRunUntilFull(t *testing.T) {
	l := slices.Repeat([]api.Act{{Disk: 1, Kind: api.ActWrite}}, api.MaxActs)
	full := must(t)(Run(two(), l, api.MaxActs))
	wantWaits(t, "full", full, api.MaxWaits, api.OK)
	wantError(t, "one more", api.ErrFull)(Run(full, l, 1))
	one := must(t)(Run(two(), l, 1))
	wantWaits(t, "full", must(t)(Run(one, l, api.MaxActs-1)), api.MaxWaits, api.OK)
	wantError(t, "one more", api.ErrFull)(Run(one, l, api.MaxActs))
}

// P5.3: what waits on all devices is counted; of devices that may not be, nothing.
func TestWaits(t *testing.T) {
	for _, disks := range append(houses(), greatHouses()...) {
		n := 0
		for _, d := range disks {
			n += len(d.Wait)
		}
		wantWaits(t, "waits", disks, n, api.OK)
	}
	wantWaits(t, "full", greatHouses()[2], most*api.MaxWaits, api.OK)
	for _, disks := range noHouses() {
		wantWaits(t, "no devices", disks, 0, api.ErrBad)
	}
}

// eachMarks are all lists of up to n marks.
func eachMarks(n int) [][]bool {
	l := [][]bool{nil}
	for i := 0; i < len(l); i++ {
		if len(l[i]) < n {
			l = append(l, append(slices.Clone(l[i]), false), append(slices.Clone(l[i]), true))
		}
	}
	return l
}

// P5.3: by the words with each list of marks, where writes of one place, of several devices, wait.
func TestCrashEachMarks(t *testing.T) {
	for _, disks := range [][]api.Disk{
		{laden(1, 1, 3)},
		{laden(2, 2, 4), dead(2), laden(3, 1, 2)},
		{dead(1), laden(4, 3, 0), laden(5, 2, 1), laden(6, 2, 5), laden(7, 1, 0)},
	} {
		n, _ := Waits(disks)
		for _, keep := range eachMarks(n) {
			wantDisks(t, "crash", crashedByWords(disks, keep))(Crash(disks, keep))
		}
	}
}

// marks are n of them, others for each seed.
func marks(seed uint32, n int) []bool {
	l := make([]bool, n)
	for i, x := range mixed(seed, n) {
		l[i] = x&32 != 0
	}
	return l
}

// P5.3: by the words of all kinds of devices; behind the last mark all are false.
func TestCrash(t *testing.T) {
	for _, disks := range append(houses(), greatHouses()...) {
		n, _ := Waits(disks)
		for seed, m := range []int{0, min(n, 1), n / 3, n / 2, max(n, 1) - 1, n} {
			keep := marks(uint32(seed), m)
			wantDisks(t, "crash", crashedByWords(disks, keep))(Crash(disks, keep))
		}
	}
}

// P5.3: more marks than writes that wait are ErrArg, also where all are false; devices that may not be come first.
func TestCrashRefused(t *testing.T) {
	for _, disks := range append(houses(), greatHouses()...) {
		n, _ := Waits(disks)
		for _, more := range []int{1, 2, 99, 1 << 20} {
			wantError(t, "marks", api.ErrArg)(Crash(disks, make([]bool, n+more)))
		}
	}
	for _, disks := range noHouses() {
		for _, n := range []int{0, 1, 1 << 20} {
			wantError(t, "no devices", api.ErrBad)(Crash(disks, make([]bool, n)))
		}
	}
}

// P5.3: one behind stands over one ahead, and where it isn't kept, the one ahead does; a mark is of its own device alone.
func TestCrashInOrder(t *testing.T) {
	disks := two()
	disks[0].Wait = []api.Write{{At: 1, Data: of(1)}, {At: 1, Data: of(2)}, {At: 1}}
	disks[1].Wait = []api.Write{{At: 1, Data: of(4)}}
	for _, c := range []struct {
		keep     []bool
		one, two byte
	}{
		{[]bool{true, true, false}, 2, 0},
		{[]bool{true}, 1, 0},
		{[]bool{false, true}, 2, 0},
		{[]bool{true, true, true, true}, 0, 4},
		{[]bool{true, false, false, true}, 1, 4},
		{[]bool{false, false, false, true}, 0, 4},
	} {
		out := must(t)(Crash(disks, c.keep))
		wantLasting(t, "device 0", out[0], 1, of(c.one))
		wantLasting(t, "device 1", out[1], 1, of(c.two))
		wantWaits(t, "behind it", out, 0, api.OK)
	}
}

// call is one of those that answer devices, with all but them and the acts told.
type call struct {
	name string
	do   func(disks []api.Disk, l []api.Act) ([]api.Disk, api.Errno)
}

// calls are those that answer devices, with and without an error.
func calls() []call {
	var l []call
	for _, n := range []int{-1, 0, 1, 3, 12} {
		l = append(l, call{"run", func(disks []api.Disk, l []api.Act) ([]api.Disk, api.Errno) { return Run(disks, l, n) }})
	}
	for _, n := range []int{0, 2, 5, 1 << 20} {
		l = append(l, call{"crash", func(disks []api.Disk, _ []api.Act) ([]api.Disk, api.Errno) { return Crash(disks, marks(5, n)) }})
	}
	return l
}

// P5.4: what is handed in is as it was, with the room behind it, also beside an error.
func TestOnlyRead(t *testing.T) {
	for k, disks := range append(houses(), noHouses()...) {
		l := []api.Act{{}, {Kind: api.ActFlush, Data: []byte{1}}}
		if Check(nil, disks) == api.OK {
			l = script(uint32(k), disks, 12)
		}
		in, given := copied(disks), copiedActs(l)
		for _, c := range calls() {
			c.do(in, given)
			if !equal(in, disks) || !equalActs(given, l) || !untouched(in, given) {
				t.Fatalf("devices %d, %s: turned", k, c.name)
			}
		}
		Check(given, in)
		Waits(in)
		Same(given, l)
		Same(l, given)
		if !equal(in, disks) || !equalActs(given, l) || !untouched(in, given) {
			t.Errorf("devices %d: turned", k)
		}
	}
}

// P5.4: marks are as they were, with those that stand behind them.
func TestMarksOnlyRead(t *testing.T) {
	for _, disks := range houses() {
		n, _ := Waits(disks)
		for m := range n + 2 {
			all := marks(uint32(m), n+9)
			Crash(disks, all[:m])
			if !slices.Equal(all, marks(uint32(m), n+9)) {
				t.Errorf("%d of %d marks: turned", m, n)
			}
		}
	}
}

// P5.4: what is answered shares nothing with what was handed in, whichever of both is turned.
func TestNewMemory(t *testing.T) {
	for k, disks := range houses() {
		l := script(uint32(k)+50, disks, 12)
		for _, c := range calls() {
			in, given := copied(disks), copiedActs(l)
			out, _ := c.do(in, given)
			told := copied(out)
			turn(in, given)
			if !equal(out, told) {
				t.Errorf("devices %d, %s: the answer is turned by way of what was handed in", k, c.name)
			}
			in, given = copied(disks), copiedActs(l)
			out, _ = c.do(in, given)
			turn(out, nil)
			if !equal(in, disks) || !equalActs(given, l) || !untouched(in, given) {
				t.Errorf("devices %d, %s: turned by way of the answer", k, c.name)
			}
		}
	}
}

// P5.4: no two lists of one answer share bytes or places, though those that were handed in were one.
func TestListsApart(t *testing.T) {
	x := mixed(1, api.Size)
	d := api.Disk{Blocks: [][]byte{x, x}, Wait: []api.Write{{At: 0, Data: x}, {At: 1, Data: x}, {At: 0, Data: x}}}
	disks := []api.Disk{d, d, d}
	var l []api.Act
	for i := range 12 {
		l = append(l, api.Act{Disk: i % 2, Kind: []uint8{api.ActWrite, api.ActFua}[i/4%2], At: i / 2 % 2, Data: x})
	}
	for _, c := range calls() {
		out, _ := c.do(disks, l)
		told := lists(out, nil)
		for i, b := range told {
			b = b[:cap(b)]
			for k := range b {
				b[k] = byte(i)
			}
		}
		for i, b := range told {
			if len(b) > 0 && !bytes.Equal(b, bytes.Repeat([]byte{byte(i)}, len(b))) {
				t.Fatalf("%s: lists share bytes", c.name)
			}
		}
		for i := range out {
			turn(out[i:i+1:i+1], nil)
			for _, other := range out[i+1:] {
				if len(other.Blocks) != 2 || slices.ContainsFunc(other.Blocks, func(b []byte) bool { return b[0] == 77 }) {
					t.Fatalf("%s: lists share places", c.name)
				}
			}
		}
	}
}

// P5.5: to do some acts, and then the others, is to do all; an error among the first ones, or among the others, is one of all.
func TestSomeAndOthers(t *testing.T) {
	for k, disks := range append(houses(), []api.Disk{laden(1, 3, api.MaxWaits-5), dead(2)}) {
		l := script(uint32(k)+80, disks, 40)
		all, e := Run(disks, l, len(l))
		for n := range len(l) + 1 {
			some, e1 := Run(disks, l, n)
			if e1 != api.OK {
				if e != e1 {
					t.Errorf("error %d of the first %d, %d of all", e1, n, e)
				}
				continue
			}
			others, e2 := Run(some, l[n:], len(l)-n)
			if e2 != e || !equal(others, all) {
				t.Errorf("devices %d: %d acts and the others: errors %d and %d, or other devices", k, n, e2, e)
			}
		}
	}
}

// written are all blocks that wait for a place of a device.
func written(d api.Disk, at int) [][]byte {
	var l [][]byte
	for _, w := range d.Wait {
		if w.At == at {
			l = append(l, whole(w.Data))
		}
	}
	return l
}

// P5.5: behind a crash each block is what lasted there, or what was written there and waited; with all marks true what was read there, with none what lasted; and nothing is left for another crash.
func TestBehindACrash(t *testing.T) {
	for k, house := range houses() {
		disks := must(t)(Run(house, script(uint32(k)+120, house, 25), 25))
		n, _ := Waits(disks)
		for seed := range uint32(20) {
			keep := marks(seed, n)
			switch seed {
			case 0:
				keep = slices.Repeat([]bool{true}, n)
			case 1:
				keep = nil
			}
			out := must(t)(Crash(disks, keep))
			wantDisks(t, "crashed twice", out)(Crash(out, nil))
			for i, d := range disks {
				if out[i].Dead != d.Dead || len(out[i].Blocks) != len(d.Blocks) || len(out[i].Wait) != 0 {
					t.Fatalf("device %d: dead %t, %d blocks, %d wait", i, out[i].Dead, len(out[i].Blocks), len(out[i].Wait))
				}
				for at := range d.Blocks {
					b := whole(out[i].Blocks[at])
					may := append(written(d, at), whole(d.Blocks[at]))
					switch {
					case !slices.ContainsFunc(may, func(w []byte) bool { return bytes.Equal(b, w) }):
						t.Errorf("device %d at %d: what was neither there nor written", i, at)
					case seed == 0 && !bytes.Equal(b, readAt(d, at)):
						t.Errorf("device %d at %d: all marks true, and not what was read", i, at)
					case seed == 1 && !bytes.Equal(b, whole(d.Blocks[at])):
						t.Errorf("device %d at %d: no marks, and not what lasted", i, at)
					}
				}
			}
		}
	}
}
