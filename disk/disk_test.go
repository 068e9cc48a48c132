package disk

import (
	"bytes"
	"math"
	"slices"
	"testing"

	"freeboard/api"
)

// mixed are n bytes without a short rule that a reader would see, others for each seed.
func mixed(seed uint32, n int) []byte {
	b := make([]byte, n)
	x := seed*2654435761 + 1
	for i := range b {
		x = x*1664525 + 1013904223
		b[i] = byte(x >> 24)
	}
	return b
}

// of is a block of one byte over and over.
func of(x byte) []byte {
	return bytes.Repeat([]byte{x}, api.Size)
}

// blocks are n of them, all unlike but for those left out: each third one is none, by nil or by an empty one.
func blocks(seed uint32, n int) [][]byte {
	l := make([][]byte, n)
	for i := range l {
		switch i % 6 {
		case 2:
		case 5:
			l[i] = []byte{}
		default:
			l[i] = mixed(seed+uint32(i), api.Size)
		}
	}
	return l
}

// waits are n writes to a device of so many blocks, of some places often and of others never; each fifth one's Data is none.
func waits(seed uint32, n, places int) []api.Write {
	l := make([]api.Write, n)
	for i, x := range mixed(seed, n) {
		l[i].At = int(x) % 5 * (places - 1) / 4
		if i%5 != 3 {
			l[i].Data = mixed(seed+1000+uint32(i), api.Size)
		}
	}
	return l
}

// devices are all kinds of those that may be.
func devices() []api.Disk {
	l := []api.Disk{
		{Blocks: make([][]byte, 1)},
		{Blocks: make([][]byte, api.MaxBlocks)},
		{Blocks: [][]byte{{}, of(0), nil}, Wait: []api.Write{}},
		{Blocks: make([][]byte, 1), Wait: make([]api.Write, api.MaxWaits)},
		{Blocks: [][]byte{of(1), of(2)}, Wait: []api.Write{{At: 0, Data: of(3)}, {At: 0}, {At: 1, Data: []byte{}}, {At: 1, Data: of(4)}}},
		{Blocks: make([][]byte, 1), Dead: true},
		{Blocks: [][]byte{nil, {}, mixed(1, 5)[:0]}, Wait: []api.Write{}, Dead: true},
		{Blocks: make([][]byte, api.MaxBlocks), Dead: true},
	}
	for _, n := range []int{1, 2, 3, 7, api.MaxBlocks - 1, api.MaxBlocks} {
		for _, w := range []int{0, 1, 2, 9, api.MaxWaits - 1, api.MaxWaits} {
			l = append(l, api.Disk{Blocks: blocks(uint32(n), n), Wait: waits(uint32(w), w, n)})
		}
	}
	return l
}

// lengths are those of bytes that are neither a block nor none.
func lengths() []int {
	return []int{1, 2, api.Size / 2, api.Size - 1, api.Size + 1, 2 * api.Size, 1 << 16}
}

// noDevices are all kinds of those that may not be, each for one cause alone.
func noDevices() []api.Disk {
	l := []api.Disk{
		{},
		{Blocks: [][]byte{}},
		{Dead: true},
		{Blocks: make([][]byte, api.MaxBlocks+1)},
		{Blocks: blocks(1, api.MaxBlocks+1)},
		{Blocks: make([][]byte, api.MaxBlocks+1), Dead: true},
		{Blocks: make([][]byte, 1<<16)},
		{Blocks: make([][]byte, 2), Wait: make([]api.Write, api.MaxWaits+1)},
		{Blocks: blocks(1, 9), Wait: waits(2, api.MaxWaits+1, 9)},
		{Blocks: make([][]byte, 2), Wait: make([]api.Write, 1), Dead: true},
		{Blocks: make([][]byte, 2), Wait: waits(3, api.MaxWaits, 2), Dead: true},
		{Blocks: make([][]byte, 2), Wait: []api.Write{{Data: of(1)}}, Dead: true},
		{Blocks: [][]byte{of(0)}, Dead: true},
		{Blocks: [][]byte{nil, nil, of(1)}, Dead: true},
		{Blocks: [][]byte{of(1), nil, nil}, Dead: true},
		{Blocks: [][]byte{nil, {0}}, Dead: true},
	}
	for _, at := range []int{-1, 3, 4, 255, 256, math.MinInt, math.MaxInt} {
		l = append(l, api.Disk{Blocks: blocks(1, 3), Wait: []api.Write{{At: at}}})
		w := waits(4, api.MaxWaits, 3)
		w[api.MaxWaits-1].At = at
		l = append(l, api.Disk{Blocks: blocks(1, 3), Wait: w})
	}
	for _, n := range lengths() {
		for at := range 3 {
			b := blocks(1, 3)
			b[at] = make([]byte, n)
			w := waits(5, 3, 3)
			w[at].Data = make([]byte, n)
			l = append(l, api.Disk{Blocks: b}, api.Disk{Blocks: blocks(1, 3), Wait: w})
		}
		b := blocks(1, api.MaxBlocks)
		b[api.MaxBlocks-1] = mixed(6, n)
		l = append(l, api.Disk{Blocks: b})
	}
	return l
}

// places are some of a device: the edges, one in the midst, and those of writes that wait.
func places(d api.Disk) []int {
	n := len(d.Blocks)
	l := []int{0, n / 2, n - 1}
	for _, w := range d.Wait[:min(len(d.Wait), 9)] {
		l = append(l, w.At)
	}
	slices.Sort(l)
	return slices.Compact(l)
}

// noPlaces are numbers that are no place of a device.
func noPlaces(d api.Disk) []int {
	n := len(d.Blocks)
	return []int{-1, -n, n, n + 1, 1 << 16, 1 << 32, math.MinInt, math.MaxInt}
}

// whole is a block's bytes as the chapter's words have them: none is one of noughts.
func whole(block []byte) []byte {
	if len(block) == 0 {
		return of(0)
	}
	return block
}

// byWords is what is read at a place by the chapter's words: the block, and over it each write of it that waits, in order.
func byWords(d api.Disk, at int) []byte {
	b := d.Blocks[at]
	for _, w := range d.Wait {
		if w.At == at {
			b = w.Data
		}
	}
	return whole(b)
}

// equal tells, byte by byte, whether two devices are one to the letter, but that lists that are nil and those that are empty are the same.
func equal(a, b api.Disk) bool {
	if len(a.Blocks) != len(b.Blocks) || len(a.Wait) != len(b.Wait) || a.Dead != b.Dead {
		return false
	}
	for i := range a.Blocks {
		if !bytes.Equal(a.Blocks[i], b.Blocks[i]) {
			return false
		}
	}
	for i := range a.Wait {
		if a.Wait[i].At != b.Wait[i].At || !bytes.Equal(a.Wait[i].Data, b.Wait[i].Data) {
			return false
		}
	}
	return true
}

// copied is a device in new memory, made without the package, with room behind its lists and behind the bytes of each.
func copied(d api.Disk) api.Disk {
	c := api.Disk{Blocks: make([][]byte, len(d.Blocks), len(d.Blocks)+3), Wait: make([]api.Write, len(d.Wait), len(d.Wait)+3), Dead: d.Dead}
	for i, block := range d.Blocks {
		c.Blocks[i] = roomy(block)
	}
	for i, w := range d.Wait {
		c.Wait[i] = api.Write{At: w.At, Data: roomy(w.Data)}
	}
	return c
}

// roomy is bytes in new memory with others behind them in what has room.
func roomy(b []byte) []byte {
	return append(bytes.Clone(b), mixed(99, 5)...)[:len(b)]
}

// lists are all lists of bytes of a device.
func lists(d api.Disk) [][]byte {
	l := slices.Clone(d.Blocks)
	for _, w := range d.Wait {
		l = append(l, w.Data)
	}
	return l
}

// turn turns all of a device that it has in memory: all bits of all bytes, with those that have room behind them, and then its lists' own places, with the room behind these.
func turn(d api.Disk) {
	for _, b := range lists(d) {
		b = b[:cap(b)]
		for i := range b {
			b[i] ^= 255
		}
	}
	for i := range d.Blocks[:cap(d.Blocks)] {
		d.Blocks[:cap(d.Blocks)][i] = of(77)
	}
	for i := range d.Wait[:cap(d.Wait)] {
		d.Wait[:cap(d.Wait)][i] = api.Write{At: 77, Data: of(77)}
	}
}

// must passes on a device that was answered without an error, and may be.
func must(t *testing.T) func(api.Disk, api.Errno) api.Disk {
	return func(d api.Disk, e api.Errno) api.Disk {
		t.Helper()
		if e != api.OK || Check(d) != api.OK {
			t.Fatalf("error %d, check %d", e, Check(d))
		}
		return d
	}
}

// want asks for what is read and what lasts at a place.
func want(t *testing.T, name string, d api.Disk, at int, read, lasting []byte) {
	t.Helper()
	if b, e := Read(d, at); e != api.OK || !bytes.Equal(b, read) {
		t.Errorf("%s: read at %d: error %d, %v, not %v", name, at, e, b, read)
	}
	if b, e := Lasting(d, at); e != api.OK || !bytes.Equal(b, lasting) {
		t.Errorf("%s: lasting at %d: error %d, %v, not %v", name, at, e, b, lasting)
	}
}

// wantDisk asks for a device to the letter.
func wantDisk(t *testing.T, name string, w api.Disk) func(api.Disk, api.Errno) {
	return func(d api.Disk, e api.Errno) {
		t.Helper()
		if e != api.OK || !equal(d, w) {
			t.Errorf("%s: error %d, %d blocks, %d wait, dead %t: another device", name, e, len(d.Blocks), len(d.Wait), d.Dead)
		}
	}
}

// wantError asks for an error, and no device beside it.
func wantError(t *testing.T, name string, w api.Errno) func(api.Disk, api.Errno) {
	return func(d api.Disk, e api.Errno) {
		t.Helper()
		if e != w || d.Blocks != nil || d.Wait != nil || d.Dead {
			t.Errorf("%s: error %d, not %d, and %d blocks, %d wait, dead %t", name, e, w, len(d.Blocks), len(d.Wait), d.Dead)
		}
	}
}

// wantNoBytes asks for an error, and no bytes beside it.
func wantNoBytes(t *testing.T, name string, w api.Errno) func([]byte, api.Errno) {
	return func(b []byte, e api.Errno) {
		t.Helper()
		if e != w || b != nil {
			t.Errorf("%s: error %d, not %d, and %v", name, e, w, b)
		}
	}
}

// P4.1 to P4.4: the chapter's examples.
func TestExamples(t *testing.T) {
	x := of(120)
	two := must(t)(New(2))
	one := must(t)(Write(two, 1, x))
	want(t, "written", one, 1, x, of(0))
	want(t, "flushed", must(t)(Flush(one)), 1, x, x)
	fua := must(t)(Fua(one, 1, nil))
	want(t, "fua", fua, 1, of(0), of(0))
	if len(fua.Wait) != 0 {
		t.Errorf("fua: %d wait", len(fua.Wait))
	}
	wantError(t, "new 0", api.ErrArg)(New(0))
	wantError(t, "new 257", api.ErrArg)(New(257))
	wantNoBytes(t, "read at 2", api.ErrArg)(Read(two, 2))
	wantError(t, "write one byte", api.ErrText)(Write(two, 0, []byte{1}))
	dead := must(t)(Kill(two))
	wantNoBytes(t, "read of dead at 0", api.ErrDead)(Read(dead, 0))
	wantNoBytes(t, "read of dead at 9", api.ErrArg)(Read(dead, 9))
}

// P4.1: a new device has so many blocks, all none, and nothing waits.
func TestNew(t *testing.T) {
	for n := 1; n <= api.MaxBlocks; n++ {
		wantDisk(t, "new", api.Disk{Blocks: make([][]byte, n)})(New(n))
	}
	d := must(t)(New(api.MaxBlocks))
	for at := range api.MaxBlocks {
		want(t, "new", d, at, of(0), of(0))
	}
	for _, n := range []int{0, -1, -2, -256, 257, 258, 512, 1 << 16, 1<<32 + 1, math.MinInt, math.MaxInt} {
		wantError(t, "new", api.ErrArg)(New(n))
	}
}

// P4.1: which devices may be.
func TestCheck(t *testing.T) {
	for k, d := range devices() {
		if e := Check(d); e != api.OK {
			t.Errorf("device %d: error %d", k, e)
		}
	}
	for k, d := range noDevices() {
		if e := Check(d); e != api.ErrBad {
			t.Errorf("no device %d: error %d", k, e)
		}
	}
}

// P4.1: each length of a block and of a write's Data.
func TestCheckEachLength(t *testing.T) {
	long := mixed(1, 3*api.Size)
	for n := range len(long) + 1 {
		w := api.ErrBad
		if n == 0 || n == api.Size {
			w = api.OK
		}
		if e := Check(api.Disk{Blocks: [][]byte{long[:n]}}); e != w {
			t.Errorf("a block of %d bytes: error %d", n, e)
		}
		if e := Check(api.Disk{Blocks: make([][]byte, 1), Wait: []api.Write{{Data: long[:n]}}}); e != w {
			t.Errorf("a write of %d bytes: error %d", n, e)
		}
		if n == api.Size {
			w = api.ErrBad
		}
		if e := Check(api.Disk{Blocks: [][]byte{long[:n]}, Dead: true}); e != w {
			t.Errorf("a dead one's block of %d bytes: error %d", n, e)
		}
	}
}

// P4.1: Check's error comes first in all calls that are named behind it, whatever else is wrong.
func TestBadIsToldFirst(t *testing.T) {
	for _, d := range noDevices() {
		for _, at := range []int{0, 2, -1, 1 << 20} {
			wantNoBytes(t, "read", api.ErrBad)(Read(d, at))
			wantNoBytes(t, "lasting", api.ErrBad)(Lasting(d, at))
			for _, data := range [][]byte{nil, of(1), {1}} {
				wantError(t, "write", api.ErrBad)(Write(d, at, data))
				wantError(t, "fua", api.ErrBad)(Fua(d, at, data))
			}
		}
		wantError(t, "flush", api.ErrBad)(Flush(d))
		wantError(t, "kill", api.ErrBad)(Kill(d))
	}
}

// wantSame asks Same both ways.
func wantSame(t *testing.T, name string, a, b api.Disk, w bool) {
	t.Helper()
	if Same(a, b) != w || Same(b, a) != w {
		t.Errorf("%s: %t and %t, not %t", name, Same(a, b), Same(b, a), w)
	}
}

// P4.1: all kinds of devices, those that may not be too, are the same as themselves, and not as others.
func TestSame(t *testing.T) {
	all := append(devices(), noDevices()...)
	for i, a := range all {
		wantSame(t, "itself", a, a, true)
		wantSame(t, "copied", a, copied(a), true)
		for j := range i {
			b := all[j]
			if len(a.Blocks) != len(b.Blocks) || len(a.Wait) != len(b.Wait) || a.Dead != b.Dead {
				wantSame(t, "another one", a, b, false)
			}
		}
	}
}

// P4.1: none are Size noughts, in a block and in what waits.
func TestSameNone(t *testing.T) {
	nones := [][]byte{nil, {}, mixed(1, 9)[:0], of(0)}
	for _, a := range nones {
		for _, b := range nones {
			for _, dead := range []bool{false, true} {
				one := api.Disk{Blocks: [][]byte{of(1), a}, Wait: []api.Write{{At: 1, Data: of(2)}, {At: 1, Data: b}}, Dead: dead}
				two := api.Disk{Blocks: [][]byte{of(1), b}, Wait: []api.Write{{At: 1, Data: of(2)}, {At: 1, Data: a}}, Dead: dead}
				wantSame(t, "none", one, two, true)
			}
		}
		for _, x := range [][]byte{of(1), {0}, make([]byte, api.Size-1), make([]byte, api.Size+1), append(make([]byte, api.Size-1), 1)} {
			wantSame(t, "a block", api.Disk{Blocks: [][]byte{a}}, api.Disk{Blocks: [][]byte{x}}, false)
			wantSame(t, "a write", api.Disk{Wait: []api.Write{{Data: a}}}, api.Disk{Wait: []api.Write{{Data: x}}}, false)
		}
	}
	wantSame(t, "nothing", api.Disk{}, api.Disk{Blocks: [][]byte{}, Wait: []api.Write{}}, true)
}

// P4.1: whatever one thing is another one, they are not the same.
func TestSameEachThing(t *testing.T) {
	for _, d := range devices() {
		turns := []func(*api.Disk){
			func(d *api.Disk) { d.Dead = !d.Dead },
			func(d *api.Disk) { d.Blocks = append(d.Blocks, nil) },
			func(d *api.Disk) { d.Blocks = d.Blocks[1:] },
			func(d *api.Disk) { d.Wait = append(d.Wait, api.Write{}) },
			func(d *api.Disk) { d.Wait = append([]api.Write{{}}, d.Wait...) },
		}
		for _, i := range places(d) {
			turns = append(turns, func(d *api.Disk) { d.Blocks[i] = turnedAt(d.Blocks[i], 0) })
			turns = append(turns, func(d *api.Disk) { d.Blocks[i] = turnedAt(d.Blocks[i], api.Size-1) })
		}
		if n := len(d.Wait); n > 0 {
			for _, i := range []int{0, n / 2, n - 1} {
				turns = append(turns, func(d *api.Disk) { d.Wait[i].At++ })
				turns = append(turns, func(d *api.Disk) { d.Wait[i].Data = turnedAt(d.Wait[i].Data, 0) })
				turns = append(turns, func(d *api.Disk) { d.Wait[i].Data = turnedAt(d.Wait[i].Data, api.Size-1) })
				turns = append(turns, func(d *api.Disk) { d.Wait = slices.Delete(d.Wait, i, i+1) })
			}
		}
		for k, f := range turns {
			c := copied(d)
			f(&c)
			if Same(d, c) || Same(c, d) {
				t.Errorf("turn %d of %d blocks, %d wait: the same", k, len(d.Blocks), len(d.Wait))
			}
		}
	}
}

// turnedAt is a block one of whose bytes is another one.
func turnedAt(block []byte, i int) []byte {
	b := bytes.Clone(whole(block))
	b[i] ^= 128
	return b
}

// P4.1: writes that wait are the same in their order alone; blocks likewise.
func TestSameInOrder(t *testing.T) {
	v, w := api.Write{At: 0, Data: of(1)}, api.Write{At: 1, Data: of(2)}
	a, b := api.Disk{Blocks: make([][]byte, 2), Wait: []api.Write{v, w}}, api.Disk{Blocks: make([][]byte, 2), Wait: []api.Write{w, v}}
	wantSame(t, "writes", a, b, false)
	wantSame(t, "writes of one place, one over the other", api.Disk{Wait: []api.Write{v, v, w}}, api.Disk{Wait: []api.Write{v, w}}, false)
	wantSame(t, "blocks", api.Disk{Blocks: [][]byte{of(1), of(2)}}, api.Disk{Blocks: [][]byte{of(2), of(1)}}, false)
	// What waits counts as what waits, though it reads as what lasts.
	wantSame(t, "flushed", api.Disk{Blocks: [][]byte{of(1)}}, api.Disk{Blocks: make([][]byte, 1), Wait: []api.Write{v}}, false)
}

// P4.1: the twin of any one is it to the letter, in new memory.
func TestTwin(t *testing.T) {
	for k, d := range append(devices(), noDevices()...) {
		in := copied(d)
		twin := Twin(in)
		if !equal(twin, d) || !Same(twin, d) {
			t.Errorf("device %d: another one", k)
		}
		turn(in)
		if !equal(twin, d) {
			t.Errorf("device %d: turned by way of what was handed in", k)
		}
	}
}

// P4.2: at each place, the last write of it that waits is read, or what lasts; what waits doesn't last.
func TestRead(t *testing.T) {
	for _, d := range devices() {
		for at := range d.Blocks {
			if d.Dead {
				wantNoBytes(t, "read of a dead one", api.ErrDead)(Read(d, at))
				wantNoBytes(t, "lasting of a dead one", api.ErrDead)(Lasting(d, at))
			} else {
				want(t, "by the words", d, at, byWords(d, at), whole(d.Blocks[at]))
			}
		}
	}
}

// P4.2: one that waits is read though it is none, and though one of another place is behind it.
func TestReadLastOfThatPlace(t *testing.T) {
	d := api.Disk{Blocks: [][]byte{of(1), of(2), of(3)}, Wait: []api.Write{{At: 0, Data: of(4)}, {At: 1, Data: of(5)}, {At: 0, Data: of(6)}, {At: 1}}}
	want(t, "of two", d, 0, of(6), of(1))
	want(t, "none over one", d, 1, of(0), of(2))
	want(t, "of nothing", d, 2, of(3), of(3))
}

// P4.2, P4.3: no place of a device is ErrArg, whether it is dead or full, and whatever is written.
func TestNoPlace(t *testing.T) {
	for _, d := range devices() {
		for _, at := range noPlaces(d) {
			wantNoBytes(t, "read", api.ErrArg)(Read(d, at))
			wantNoBytes(t, "lasting", api.ErrArg)(Lasting(d, at))
			for _, data := range [][]byte{nil, {}, of(1), {1}, make([]byte, api.Size+1)} {
				wantError(t, "write", api.ErrArg)(Write(d, at, data))
				wantError(t, "fua", api.ErrArg)(Fua(d, at, data))
			}
		}
	}
}

// P4.3: what is no block is ErrText, ahead of ErrDead and ErrFull.
func TestNoBlock(t *testing.T) {
	for _, d := range devices() {
		for _, n := range lengths() {
			for _, at := range places(d) {
				wantError(t, "write", api.ErrText)(Write(d, at, make([]byte, n)))
				wantError(t, "fua", api.ErrText)(Fua(d, at, mixed(1, n)))
			}
		}
	}
}

// written are all kinds of what may be.
func written() [][]byte {
	return [][]byte{nil, {}, mixed(1, 9)[:0], of(0), of(255), mixed(2, api.Size), mixed(3, 2*api.Size)[:api.Size]}
}

// P4.3: a write stands behind all that wait, and nothing else is another one; on a dead one it is refused, and where MaxWaits wait.
func TestWrite(t *testing.T) {
	for _, d := range devices() {
		for _, at := range places(d) {
			for _, data := range written() {
				switch {
				case d.Dead:
					wantError(t, "dead", api.ErrDead)(Write(d, at, data))
				case len(d.Wait) == api.MaxWaits:
					wantError(t, "full", api.ErrFull)(Write(d, at, data))
				default:
					w := copied(d)
					w.Wait = append(w.Wait, api.Write{At: at, Data: data})
					wantDisk(t, "write", w)(Write(d, at, data))
				}
			}
		}
	}
}

// P4.3: a write of what is there already waits like others.
func TestWriteTwice(t *testing.T) {
	d := must(t)(New(2))
	for n := range api.MaxWaits {
		if len(d.Wait) != n {
			t.Fatalf("%d wait, not %d", len(d.Wait), n)
		}
		d = must(t)(Write(d, 1, nil))
	}
	wantError(t, "one more", api.ErrFull)(Write(d, 1, nil))
	wantError(t, "one more", api.ErrFull)(Write(d, 0, of(1)))
	d = must(t)(Fua(d, 0, nil))
	wantError(t, "behind another place's fua", api.ErrFull)(Write(d, 0, of(1)))
	d = must(t)(Flush(d))
	must(t)(Write(d, 0, of(1)))
}

// P4.3: by Fua that block lasts at once, no write of its place waits any more, and all others do, in their order; where MaxWaits wait, too.
func TestFua(t *testing.T) {
	for _, d := range devices() {
		for _, at := range places(d) {
			for _, data := range written() {
				if d.Dead {
					wantError(t, "dead", api.ErrDead)(Fua(d, at, data))
					continue
				}
				w := copied(d)
				w.Blocks[at], w.Wait = data, nil
				for _, other := range d.Wait {
					if other.At != at {
						w.Wait = append(w.Wait, other)
					}
				}
				wantDisk(t, "fua", w)(Fua(d, at, data))
				want(t, "fua", must(t)(Fua(d, at, data)), at, whole(data), whole(data))
			}
		}
	}
}

// P4.4: behind a flush that lasts which was read, and nothing waits; nothing that is read is another one.
func TestFlush(t *testing.T) {
	for _, d := range devices() {
		if d.Dead {
			wantError(t, "dead", api.ErrDead)(Flush(d))
			continue
		}
		f := must(t)(Flush(d))
		if len(f.Blocks) != len(d.Blocks) || len(f.Wait) != 0 || f.Dead {
			t.Errorf("%d blocks, not %d; %d wait; dead %t", len(f.Blocks), len(d.Blocks), len(f.Wait), f.Dead)
		}
		for at := range d.Blocks {
			want(t, "flushed", f, at, byWords(d, at), byWords(d, at))
		}
		if len(d.Wait) == 0 {
			wantDisk(t, "nothing waits", d)(f, api.OK)
		}
		wantDisk(t, "flushed twice", f)(Flush(f))
	}
}

// P4.4: nothing is left of a dead one but how many blocks it had; it may die twice.
func TestKill(t *testing.T) {
	for _, d := range devices() {
		w := api.Disk{Blocks: make([][]byte, len(d.Blocks)), Dead: true}
		k := must(t)(Kill(d))
		wantDisk(t, "killed", w)(k, api.OK)
		wantDisk(t, "killed twice", w)(Kill(k))
	}
}

// call is one of those that answer a device, with all but it told.
type call struct {
	name string
	do   func(d api.Disk, data []byte) (api.Disk, api.Errno)
}

// calls are those that answer a device.
func calls() []call {
	l := []call{
		{"flush", func(d api.Disk, _ []byte) (api.Disk, api.Errno) { return Flush(d) }},
		{"kill", func(d api.Disk, _ []byte) (api.Disk, api.Errno) { return Kill(d) }},
		{"twin", func(d api.Disk, _ []byte) (api.Disk, api.Errno) { return Twin(d), api.OK }},
	}
	for _, at := range []int{-1, 0, 1, 1 << 20} {
		l = append(l,
			call{"write", func(d api.Disk, data []byte) (api.Disk, api.Errno) { return Write(d, at, data) }},
			call{"fua", func(d api.Disk, data []byte) (api.Disk, api.Errno) { return Fua(d, at, data) }})
	}
	return l
}

// untouched tells whether a device that copied made still has what it made in the room behind its lists.
func untouched(d api.Disk) bool {
	for _, b := range lists(d) {
		if !bytes.Equal(b[:cap(b)][len(b):len(b)+5], mixed(99, 5)) {
			return false
		}
	}
	for _, b := range d.Blocks[:cap(d.Blocks)][len(d.Blocks):] {
		if b != nil {
			return false
		}
	}
	for _, w := range d.Wait[:cap(d.Wait)][len(d.Wait):] {
		if w.At != 0 || w.Data != nil {
			return false
		}
	}
	return true
}

// P4.5: what is handed in is as it was, with the room behind it, also beside an error.
func TestOnlyRead(t *testing.T) {
	for k, d := range append(devices(), noDevices()...) {
		in := copied(d)
		for _, data := range append(written(), []byte{1}) {
			given := roomy(data)
			for _, c := range calls() {
				c.do(in, given)
				if !equal(in, d) || !untouched(in) || !bytes.Equal(given[:len(given)+5], roomy(data)[:len(data)+5]) {
					t.Fatalf("device %d, %s: turned", k, c.name)
				}
			}
		}
		for _, at := range []int{-1, 0, 1, 1 << 20} {
			Read(in, at)
			Lasting(in, at)
		}
		Check(in)
		Same(in, d)
		Same(d, in)
		if !equal(in, d) || !untouched(in) {
			t.Errorf("device %d: turned", k)
		}
	}
}

// P4.5: what is answered shares nothing with what was handed in, whichever of both is turned.
func TestNewMemory(t *testing.T) {
	for k, d := range devices() {
		for _, data := range [][]byte{nil, of(9)} {
			for _, c := range calls() {
				in, given := copied(d), roomy(data)
				out, _ := c.do(in, given)
				told := copied(out)
				turn(in)
				turn(api.Disk{Blocks: [][]byte{given}})
				if !equal(out, told) {
					t.Errorf("device %d, %s: the answer is turned by way of what was handed in", k, c.name)
				}
				in, given = copied(d), roomy(data)
				out, _ = c.do(in, given)
				turn(out)
				if !equal(in, d) || !untouched(in) || !bytes.Equal(given, data) {
					t.Errorf("device %d, %s: turned by way of the answer", k, c.name)
				}
			}
		}
	}
}

// P4.5: blocks that are handed out share nothing with the device, nor with each other.
func TestNewBlocks(t *testing.T) {
	for k, d := range devices() {
		in := copied(d)
		for _, at := range places(d) {
			for _, f := range []func(api.Disk, int) ([]byte, api.Errno){Read, Lasting} {
				one, e := f(in, at)
				two, _ := f(in, at)
				if e != api.OK {
					continue
				}
				told := bytes.Clone(two)
				turn(api.Disk{Blocks: [][]byte{one}})
				if !equal(in, d) || !untouched(in) || !bytes.Equal(two, told) {
					t.Errorf("device %d at %d: turned by way of the answer", k, at)
				}
			}
		}
	}
}

// P4.5: no two lists of one answer share bytes, though those that were handed in were one.
func TestListsApart(t *testing.T) {
	x := mixed(1, api.Size)
	d := api.Disk{Blocks: [][]byte{x, x, x}, Wait: []api.Write{{At: 0, Data: x}, {At: 1, Data: x}, {At: 0, Data: x}, {At: 2, Data: x}}}
	for _, c := range calls() {
		out, _ := c.do(d, x)
		l := lists(out)
		for i, b := range l {
			b = b[:cap(b)]
			for k := range b {
				b[k] = byte(i)
			}
		}
		for i, b := range l {
			for _, y := range b {
				if y != byte(i) {
					t.Fatalf("%s: lists share bytes", c.name)
				}
			}
		}
	}
}

// P4.5: of one device that has room behind what waits, two are made that don't get into each other's way.
func TestTwoOfOne(t *testing.T) {
	d := copied(api.Disk{Blocks: blocks(1, 3), Wait: waits(1, 2, 3)})
	a, b := must(t)(Write(d, 1, of(1))), must(t)(Write(d, 1, of(2)))
	want(t, "the first one", a, 1, of(1), d.Blocks[1])
	want(t, "the second one", b, 1, of(2), d.Blocks[1])
}

// history is a device as the words of P4.6 have it: of each place what was written last, and what lasts.
type history struct {
	last, sure [][]byte
}

// step does one thing, told by three bytes, to a device and to its history.
func (h *history) step(d api.Disk, what, where, with byte) (api.Disk, api.Errno) {
	at, data := int(where)%len(h.last), of(with)
	if with%8 == 0 {
		data = nil
	}
	switch what % 8 {
	case 0:
		d, e := Flush(d)
		if e == api.OK {
			copy(h.sure, h.last)
		}
		return d, e
	case 1, 2:
		d, e := Fua(d, at, data)
		if e == api.OK {
			h.last[at], h.sure[at] = whole(data), whole(data)
		}
		return d, e
	default:
		d, e := Write(d, at, data)
		if e == api.OK {
			h.last[at] = whole(data)
		}
		return d, e
	}
}

// P4.6: behind any calls, what is read is what was written last, by whichever way; what was written by Fua, or ahead of a flush, lasts until that place is written again (and behind that till what was written lasts, as power doesn't fail here).
func TestFollows(t *testing.T) {
	for seed := range uint32(40) {
		n := 1 + int(seed)%5
		d := must(t)(New(n))
		h := history{last: make([][]byte, n), sure: make([][]byte, n)}
		for at := range n {
			h.last[at], h.sure[at] = of(0), of(0)
		}
		script := mixed(seed, 300)
		for i := 0; i+2 < len(script); i += 3 {
			next, e := h.step(d, script[i], script[i+1], script[i+2])
			d = must(t)(next, e)
			for at := range n {
				want(t, "followed", d, at, h.last[at], h.sure[at])
			}
		}
	}
}

// P4.6: who is dead stays dead, whatever is done.
func TestDeadStaysDead(t *testing.T) {
	for _, d := range devices() {
		k := must(t)(Kill(d))
		at := len(k.Blocks) - 1
		wantError(t, "write", api.ErrDead)(Write(k, at, of(1)))
		wantError(t, "fua", api.ErrDead)(Fua(k, at, of(1)))
		wantError(t, "flush", api.ErrDead)(Flush(k))
		wantNoBytes(t, "read", api.ErrDead)(Read(k, at))
		wantNoBytes(t, "lasting", api.ErrDead)(Lasting(k, at))
		if again := must(t)(Kill(k)); !again.Dead || !Twin(k).Dead {
			t.Error("it lives")
		}
	}
}
