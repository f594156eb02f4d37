package bus_test

import (
	"math"
	"slices"
	"testing"

	"changeling/api"
	"changeling/bus"
	"changeling/ram"
)

const (
	size  = api.RamSize
	words = size / 4
	ones  = math.MaxUint32
)

// numbers tells words from a fixed rule, each time another one.
func numbers() func() uint32 {
	x := uint32(2463534242)
	return func() uint32 {
		x ^= x << 13
		x ^= x >> 17
		x ^= x << 5
		return x
	}
}

// someWords fill memory.
func someWords() []uint32 {
	next, l := numbers(), make([]uint32, words)
	for i := range l {
		l[i] = next()
	}
	return l
}

func loads(t *testing.T, b *bus.Bus, addr uint32, size int, signed bool, count int, want uint32, wantErr error) {
	t.Helper()
	if v, err := b.Load(addr, size, signed, count); v != want || err != wantErr {
		t.Errorf("Load(%#x, %d, %v, %d) = %08x, %v, not %08x, %v", addr, size, signed, count, v, err, want, wantErr)
	}
}

func stores(t *testing.T, b *bus.Bus, addr uint32, size int, v uint32, count int, wantErr error) {
	t.Helper()
	if err := b.Store(addr, size, v, count); err != wantErr {
		t.Errorf("Store(%#x, %d, %08x, %d): %v, not %v", addr, size, v, count, err, wantErr)
	}
}

// devices tells whether output, lamp and trace are just these.
func devices(t *testing.T, b *bus.Bus, output string, lamp uint32, trace ...api.Access) {
	t.Helper()
	if got := b.Output(); got != output {
		t.Errorf("Output() = %q, not %q", got, output)
	}
	if got := b.Lamp(); got != lamp {
		t.Errorf("Lamp() = %d, not %d", got, lamp)
	}
	if got := b.Trace(); !slices.Equal(got, trace) {
		t.Errorf("Trace() = %v, not %v", got, trace)
	}
}

func holds(t *testing.T, r *ram.Ram, want []uint32) {
	t.Helper()
	if !slices.Equal(r.Words(), want) {
		t.Error("memory does not hold what it should")
	}
}

// P50
func TestNewHasItsWordsAndNothingElse(t *testing.T) {
	for _, n := range []int{0, 1, 65, words, words + 3} {
		l, want := make([]uint32, n), make([]uint32, words)
		for i := range l {
			l[i] = uint32(i) + 0x80818283
		}
		copy(want, l)
		b := bus.New(l)
		holds(t, b.Ram(), want)
		devices(t, b, "", 0)
		if n > 0 {
			l[0] = 5
			loads(t, b, 0, 4, false, 0, 0x80818283, nil)
		}
	}
	holds(t, bus.New(nil).Ram(), make([]uint32, words))
}

// P50: below RamSize it is ram's: every size, signed and not, the first bytes and the last ones.
func TestBelowRamSizeItIsMemory(t *testing.T) {
	b, r := bus.New(someWords()), ram.New(someWords())
	for _, n := range []int{-1, 0, 1, 2, 3, 4, 5, 8} {
		for _, from := range []uint32{0, 256, 4096, size - 8} {
			for addr := from; addr < from+8; addr++ {
				for _, signed := range []bool{true, false} {
					v, err := r.Load(addr, n, signed)
					loads(t, b, addr, n, signed, 7, v, err)
				}
				stores(t, b, addr, n, 0xA1B2C3D4, 8, r.Store(addr, n, 0xA1B2C3D4))
			}
		}
	}
	holds(t, b.Ram(), r.Words())
	devices(t, b, "", 0)
}

// P50
func TestConsoleTakesTheLowestByte(t *testing.T) {
	b := bus.New(nil)
	want := []byte{}
	for v := range uint32(256) {
		stores(t, b, api.Console, 4, v*0x01010100+v, int(v), nil)
		want = append(want, byte(v))
	}
	stores(t, b, api.Console, 4, ones, 256, nil)
	want = append(want, 255)
	if b.Output() != string(want) {
		t.Errorf("Output() = %q", b.Output())
	}
	loads(t, b, api.Console, 4, false, 300, 0, nil)
	loads(t, b, api.Console, 4, true, 300, 0, nil)
	if b.Output() != string(want) || b.Lamp() != 0 {
		t.Error("a load of the console changed what is to be seen")
	}
}

// P50
func TestClockTellsTheCount(t *testing.T) {
	b := bus.New(nil)
	for _, c := range []struct {
		count int
		want  uint32
	}{
		{0, 0},
		{1, 1},
		{1 << 31, 1 << 31},
		{ones, ones},
		{1 << 32, 0},
		{1<<32 + 1, 1},
		{1<<60 + 5, 5},
		{-1, ones},
	} {
		stores(t, b, api.Clock, 4, 12345, c.count, nil)
		loads(t, b, api.Clock, 4, false, c.count, c.want, nil)
		loads(t, b, api.Clock, 4, true, c.count, c.want, nil)
	}
	if b.Output() != "" || b.Lamp() != 0 {
		t.Error("the clock is no other device")
	}
}

// P50
func TestLampIsSetAndTold(t *testing.T) {
	b := bus.New(nil)
	loads(t, b, api.Lamp, 4, false, 3, 0, nil)
	for _, v := range []uint32{1, 255, 256, 1 << 31, ones, 0, 7} {
		stores(t, b, api.Lamp, 4, v, 3, nil)
		loads(t, b, api.Lamp, 4, false, 4, v, nil)
		loads(t, b, api.Lamp, 4, true, 4, v, nil)
		if b.Lamp() != v || b.Output() != "" {
			t.Errorf("Lamp() = %d, not %d; Output() = %q", b.Lamp(), v, b.Output())
		}
	}
}

// P50
func TestLastIOIsNothing(t *testing.T) {
	b := bus.New(nil)
	stores(t, b, api.Lamp, 4, 9, 1, nil)
	stores(t, b, api.LastIO, 4, 77, 2, nil)
	loads(t, b, api.LastIO, 4, false, 3, 0, nil)
	loads(t, b, api.LastIO, 4, true, 3, 0, nil)
	if b.Lamp() != 9 || b.Output() != "" {
		t.Errorf("Lamp() = %d, Output() = %q", b.Lamp(), b.Output())
	}
}

// P50, P3: errors, bare, the first one that is so; nothing is changed, and nothing is traced.
func TestErrorsInTheirOrder(t *testing.T) {
	l := someWords()
	b := bus.New(l)
	stores(t, b, api.Lamp, 4, 6, 1, nil)
	for _, c := range []struct {
		addr uint32
		size int
		err  error
	}{
		{api.Console, 0, api.ErrShape},
		{api.Console, 3, api.ErrShape},
		{api.Console, 8, api.ErrShape},
		{api.Clock, -4, api.ErrShape},
		{api.Lamp, math.MinInt, api.ErrShape},
		{api.LastIO, math.MaxInt, api.ErrShape},
		{api.Console, 1<<32 + 4, api.ErrShape},
		{api.Lamp + 1, 3, api.ErrShape},
		{size, 5, api.ErrShape},
		{ones, 0, api.ErrShape},
		{api.Console + 1, 2, api.ErrAlign},
		{api.Console + 1, 4, api.ErrAlign},
		{api.Clock + 2, 4, api.ErrAlign},
		{api.Lamp + 3, 4, api.ErrAlign},
		{api.LastIO + 2, 4, api.ErrAlign},
		{api.LastIO + 5, 2, api.ErrAlign},
		{api.Console - 1, 4, api.ErrAlign},
		{size + 2, 4, api.ErrAlign},
		{size - 2, 4, api.ErrAlign},
		{ones, 4, api.ErrAlign},
		{api.Console, 1, api.ErrFar},
		{api.Console, 2, api.ErrFar},
		{api.Console + 3, 1, api.ErrFar},
		{api.Clock, 1, api.ErrFar},
		{api.Clock + 2, 2, api.ErrFar},
		{api.Lamp, 2, api.ErrFar},
		{api.Lamp + 1, 1, api.ErrFar},
		{api.LastIO, 1, api.ErrFar},
		{api.LastIO, 2, api.ErrFar},
		{size, 1, api.ErrFar},
		{size, 2, api.ErrFar},
		{size, 4, api.ErrFar},
		{api.Console - 4, 4, api.ErrFar},
		{api.Console - 1, 1, api.ErrFar},
		{api.LastIO + 4, 4, api.ErrFar},
		{api.LastIO + 4, 1, api.ErrFar},
		{2 * api.Console, 4, api.ErrFar},
		{1<<31 + api.Lamp, 4, api.ErrFar},
		{ones - 3, 4, api.ErrFar},
		{ones, 1, api.ErrFar},
	} {
		loads(t, b, c.addr, c.size, false, 9, 0, c.err)
		loads(t, b, c.addr, c.size, true, 9, 0, c.err)
		stores(t, b, c.addr, c.size, 0x55, 9, c.err)
	}
	holds(t, b.Ram(), l)
	devices(t, b, "", 6, api.Access{Count: 1, Store: true, Addr: api.Lamp, Value: 6})
}

// P51: what is stored into the bus is in its memory, and the other way round.
func TestRamIsItsOwn(t *testing.T) {
	b := bus.New([]uint32{1, 2})
	r := b.Ram()
	stores(t, b, 4, 2, 9, 1, nil)
	if v, err := r.Load(4, 4, false); v != 0x90002 || err != nil {
		t.Errorf("its memory has %08x, %v", v, err)
	}
	if err := r.Store(0, 1, 0x80); err != nil {
		t.Error(err)
	}
	loads(t, b, 0, 4, false, 2, 0x80000001, nil)
	if err := r.Watch(3, true); err != nil {
		t.Error(err)
	}
	stores(t, b, 3*api.PageSize, 4, 5, 3, nil)
	if hits := b.Ram().Hits(); !slices.Equal(hits, []int{3}) {
		t.Errorf("Hits() = %v", hits)
	}
}

// P51: in the order of the accesses, whatever their counts are; whole values, also where a device takes less.
func TestTraceInOrder(t *testing.T) {
	b := bus.New(nil)
	stores(t, b, api.Console, 4, 0x141, 30, nil)
	stores(t, b, api.Lamp, 4, 99, 20, nil)
	loads(t, b, api.Lamp, 4, true, 20, 99, nil)
	stores(t, b, 8, 4, 3, 21, nil)
	loads(t, b, 8, 4, true, 22, 3, nil)
	loads(t, b, api.Clock, 4, false, 1<<32+2, 2, nil)
	stores(t, b, api.Clock, 4, 5, 0, nil)
	stores(t, b, api.LastIO, 4, ones, -3, nil)
	loads(t, b, api.LastIO, 4, false, 4, 0, nil)
	loads(t, b, api.Console, 4, false, 4, 0, nil)
	loads(t, b, api.Console, 4, false, 4, 0, nil)
	devices(t, b, "A", 99,
		api.Access{Count: 30, Store: true, Addr: api.Console, Value: 0x141},
		api.Access{Count: 20, Store: true, Addr: api.Lamp, Value: 99},
		api.Access{Count: 20, Addr: api.Lamp, Value: 99},
		api.Access{Count: 1<<32 + 2, Addr: api.Clock, Value: 2},
		api.Access{Store: true, Addr: api.Clock, Value: 5},
		api.Access{Count: -3, Store: true, Addr: api.LastIO, Value: ones},
		api.Access{Count: 4, Addr: api.LastIO},
		api.Access{Count: 4, Addr: api.Console},
		api.Access{Count: 4, Addr: api.Console},
	)
}

// P51, P4: a trace that was told is nobody else's.
func TestTraceIsNewMemory(t *testing.T) {
	b := bus.New(nil)
	stores(t, b, api.Lamp, 4, 1, 1, nil)
	told := b.Trace()
	told[0].Value = 8
	told = append(told, api.Access{Count: 9})
	first := api.Access{Count: 1, Store: true, Addr: api.Lamp, Value: 1}
	devices(t, b, "", 1, first)
	stores(t, b, api.Lamp, 4, 2, 2, nil)
	devices(t, b, "", 2, first, api.Access{Count: 2, Store: true, Addr: api.Lamp, Value: 2})
	if told[1].Count != 9 {
		t.Error("a store changed a trace that was told")
	}
}

// P51, P4: neither shows what is done to the other: memory, output, lamp, trace.
func TestCopyIsApart(t *testing.T) {
	l := someWords()
	b := bus.New(l)
	stores(t, b, api.Console, 4, 'a', 1, nil)
	stores(t, b, api.Lamp, 4, 5, 2, nil)
	trace := b.Trace()
	x := b.Copy()
	if x.Ram() == b.Ram() {
		t.Fatal("a copy has the memory of what it was made of")
	}
	stores(t, b, api.Console, 4, 'b', 3, nil)
	stores(t, b, api.Lamp, 4, 6, 4, nil)
	stores(t, b, 0, 4, ^l[0], 5, nil)
	holds(t, x.Ram(), l)
	devices(t, x, "a", 5, trace...)
	told := b.Trace()
	stores(t, x, api.Console, 4, 'x', 6, nil)
	stores(t, x, api.Lamp, 4, 7, 7, nil)
	stores(t, x, 4, 4, ^l[1], 8, nil)
	loads(t, b, 4, 4, false, 9, l[1], nil)
	devices(t, b, "ab", 6, told...)
	if x.Output() != "ax" || x.Lamp() != 7 || len(x.Trace()) != 4 {
		t.Errorf("of the copy: %q, %d, %v", x.Output(), x.Lamp(), x.Trace())
	}
}

// P51, P4: also where a list has room behind its length, as one of some lengths must.
func TestCopiesGoOnApart(t *testing.T) {
	b := bus.New(nil)
	for i := range 40 {
		v := uint32('a' + i%26)
		x, y := b.Copy(), b.Copy()
		output, trace := b.Output(), b.Trace()
		stores(t, x, api.Console, 4, 'X', i, nil)
		stores(t, y, api.Console, 4, 'Y', i, nil)
		stores(t, b, api.Console, 4, v, i, nil)
		for _, c := range []struct {
			b *bus.Bus
			v uint32
		}{{x, 'X'}, {y, 'Y'}, {b, v}} {
			last := api.Access{Count: i, Store: true, Addr: api.Console, Value: c.v}
			devices(t, c.b, output+string(rune(c.v)), 0, append(slices.Clone(trace), last)...)
		}
	}
}

// P51: a copy of its memory is one with its watches and its hits.
func TestCopyTakesWatchesAlong(t *testing.T) {
	b := bus.New(nil)
	if err := b.Ram().Watch(1, true); err != nil {
		t.Error(err)
	}
	x := b.Copy()
	stores(t, x, api.PageSize, 4, 1, 1, nil)
	if hits := x.Ram().Hits(); !slices.Equal(hits, []int{1}) {
		t.Errorf("of the copy: Hits() = %v", hits)
	}
	if hits := b.Ram().Hits(); len(hits) != 0 {
		t.Errorf("Hits() = %v", hits)
	}
}

// devicesApart are what a bus has beside memory, worked out apart from the package.
type devicesApart struct {
	output []byte
	lamp   uint32
	trace  []api.Access
}

func (d *devicesApart) store(addr, v uint32, count int) {
	if addr == api.Console {
		d.output = append(d.output, byte(v&255))
	} else if addr == api.Lamp {
		d.lamp = v
	}
	d.trace = append(d.trace, api.Access{Count: count, Store: true, Addr: addr, Value: v})
}

func (d *devicesApart) load(addr uint32, count int) uint32 {
	v := map[uint32]uint32{api.Clock: uint32(uint64(count) % (1 << 32)), api.Lamp: d.lamp}[addr]
	d.trace = append(d.trace, api.Access{Count: count, Addr: addr, Value: v})
	return v
}

// P52: with accesses of devices between, memory is as one on which only the others are done; and the other way round.
func TestDevicesMakeNoDifferenceToMemory(t *testing.T) {
	next, d, r, b := numbers(), &devicesApart{}, ram.New(someWords()), bus.New(someWords())
	for p := 0; p < size/api.PageSize; p += 2 {
		if r.Watch(p, true) != nil || b.Ram().Watch(p, true) != nil {
			t.Fatal("a page is not watched")
		}
	}
	for turn := range 8000 {
		count, v := turn*1000003, next()
		device := api.Console + 4*(next()%4)
		if turn%2 == 0 {
			stores(t, b, device, 4, v, count, nil)
			d.store(device, v, count)
		} else {
			loads(t, b, device, 4, turn%3 == 0, count, d.load(device, count), nil)
		}
		n := []int{1, 2, 4}[next()%3]
		// Also the address that a device would have if its high bits were left away.
		addr := next() % size
		if turn%3 == 0 {
			addr = device % size
		}
		stores(t, b, addr, n, v, count, r.Store(addr, n, v))
		want, err := r.Load(addr, n, turn%5 == 0)
		loads(t, b, addr, n, turn%5 == 0, count, want, err)
		if turn%400 == 0 {
			holds(t, b.Ram(), r.Words())
			if got, want := b.Ram().Hits(), r.Hits(); !slices.Equal(got, want) {
				t.Errorf("Hits() = %v, not %v", got, want)
			}
		}
	}
	holds(t, b.Ram(), r.Words())
	devices(t, b, string(d.output), d.lamp, d.trace...)
}
