package cpu_test

import (
	"slices"
	"testing"

	"changeling/api"
	"changeling/bus"
	"changeling/cpu"
)

// guest is a processor worked out apart from the package: it takes words apart by the numbers of the document's table, and counts with 64 bits.
type guest struct {
	s     api.State
	bytes [api.RamSize]byte
	out   []byte
	lamp  uint32
	trace []api.Access
}

// exception is what a guest panics with when an instruction comes to one.
type exception uint32

func signed(v uint32) int64 { return int64(v) - int64(v>>31)<<32 }

func truth(yes bool) int64 {
	if yes {
		return 1
	}
	return 0
}

// small raises Ov where a number is no signed word.
func small(v int64) int64 {
	if v < -1<<31 || v >= 1<<31 {
		panic(exception(api.Ov))
	}
	return v
}

// step of a guest: an instruction that comes to an exception leaves but Bad.
func (g *guest) step() (code int) {
	before := *g
	defer func() {
		switch e := recover().(type) {
		case nil:
		case exception:
			bad := g.s.Bad
			*g = before
			g.s = caught(g.s, uint32(e))
			g.s.Bad, code = bad, int(e)
		default:
			panic(e)
		}
		g.s.Count++
	}()
	if g.s.Compare > 0 && uint64(g.s.Count) >= uint64(g.s.Compare) && g.s.Status%4 == 1 {
		panic(exception(api.Int))
	}
	if g.s.PC%4 != 0 || g.s.PC >= api.RamSize {
		g.s.Bad = g.s.PC
		panic(exception(api.AdEL))
	}
	var w uint32
	for _, x := range g.bytes[g.s.PC : g.s.PC+4] {
		w = w*256 + uint32(x)
	}
	g.do(w)
	g.s.R[0] = 0
	return -1
}

// do a word: registers that it names, then what its highest six bits ask for.
func (g *guest) do(w uint32) {
	s, t := g.s.R[w>>21%32], g.s.R[w>>16%32]
	place := &g.s.R[w>>16%32]
	imm := int64(int16(w))
	slot := g.s.Slot
	g.s.Slot = false
	pc := g.s.PC
	g.s.PC, g.s.Next = g.s.Next, g.s.Next+4
	switch w >> 26 {
	case 0:
		g.register(w, s, t, pc, slot)
	case 2, 3:
		g.branch(true, slot, (pc+4)/(1<<28)*(1<<28)+w%(1<<26)*4)
		if w>>26 == 3 {
			g.s.R[31] = pc + 8
		}
	case 4:
		g.branch(s == t, slot, uint32(int64(pc)+4+4*imm))
	case 5:
		g.branch(s != t, slot, uint32(int64(pc)+4+4*imm))
	case 6, 7:
		if w>>16%32 != 0 {
			panic(exception(api.RI))
		}
		g.branch((signed(s) > 0) == (w>>26 == 7), slot, uint32(int64(pc)+4+4*imm))
	case 8:
		*place = uint32(small(signed(s) + imm))
	case 9:
		*place = uint32(signed(s) + imm)
	case 10:
		*place = uint32(truth(signed(s) < imm))
	case 11:
		*place = uint32(truth(s < uint32(imm)))
	case 12:
		*place = s & (w % 65536)
	case 13:
		*place = s | w%65536
	case 14:
		*place = s ^ w%65536
	case 15:
		if w>>21%32 != 0 {
			panic(exception(api.RI))
		}
		*place = w % 65536 * 65536
	case 16:
		g.control(w, t, place, slot)
	case 32:
		*place = uint32(int8(g.load(uint32(signed(s)+imm), 1)))
	case 33:
		*place = uint32(int16(g.load(uint32(signed(s)+imm), 2)))
	case 35:
		*place = g.load(uint32(signed(s)+imm), 4)
	case 36:
		*place = g.load(uint32(signed(s)+imm), 1)
	case 37:
		*place = g.load(uint32(signed(s)+imm), 2)
	case 40:
		g.store(uint32(signed(s)+imm), 1, t)
	case 41:
		g.store(uint32(signed(s)+imm), 2, t)
	case 43:
		g.store(uint32(signed(s)+imm), 4, t)
	default:
		panic(exception(api.RI))
	}
}

func (g *guest) branch(taken, slot bool, to uint32) {
	if slot {
		panic(exception(api.RI))
	}
	g.s.Slot = true
	if taken {
		g.s.Next = to
	}
}

// register does a word whose highest six bits are 0.
func (g *guest) register(w, s, t, pc uint32, slot bool) {
	// Bits that must be 0 of each number, from the document's FIELDS.
	must := map[uint32]uint32{0: 31 << 21, 2: 31 << 21, 3: 31 << 21, 8: 0x1FFFC0, 9: 0x1F07C0, 12: 0x3FFFFC0, 13: 0x3FFFFC0, 16: 0x3FF07C0, 17: 0x1FFFC0, 18: 0x3FF07C0, 19: 0x1FFFC0, 24: 0xFFC0, 25: 0xFFC0, 26: 0xFFC0, 27: 0xFFC0}
	zero, ok := must[w%64]
	if !ok {
		zero = 0x7C0
	}
	if w&zero != 0 {
		panic(exception(api.RI))
	}
	place, by := &g.s.R[w>>11%32], w>>6%32
	if w%64 >= 4 {
		by = s % 32
	}
	switch w % 64 {
	case 0, 4:
		*place = uint32(uint64(t) * (1 << by))
	case 2, 6:
		*place = uint32(uint64(t) / (1 << by))
	case 3, 7:
		*place = uint32(signed(t) >> by)
	case 8:
		g.branch(true, slot, s)
	case 9:
		g.branch(true, slot, s)
		*place = pc + 8
	case 12:
		panic(exception(api.Sys))
	case 13:
		panic(exception(api.Bp))
	case 16:
		*place = g.s.Hi
	case 17:
		g.s.Hi = s
	case 18:
		*place = g.s.Lo
	case 19:
		g.s.Lo = s
	case 24:
		g.s.Hi, g.s.Lo = uint32(signed(s)*signed(t)>>32), s*t
	case 25:
		g.s.Hi, g.s.Lo = uint32(uint64(s)*uint64(t)>>32), s*t
	case 26:
		if t != 0 {
			g.s.Hi, g.s.Lo = uint32(signed(s)%signed(t)), uint32(signed(s)/signed(t))
		}
	case 27:
		if t != 0 {
			g.s.Hi, g.s.Lo = s%t, s/t
		}
	case 32:
		*place = uint32(small(signed(s) + signed(t)))
	case 33:
		*place = uint32(signed(s) + signed(t))
	case 34:
		*place = uint32(small(signed(s) - signed(t)))
	case 35:
		*place = uint32(signed(s) - signed(t))
	case 36:
		*place = s & t
	case 37:
		*place = s | t
	case 38:
		*place = s ^ t
	case 39:
		*place = ones - (s | t)
	case 42:
		*place = uint32(truth(signed(s) < signed(t)))
	case 43:
		*place = uint32(truth(s < t))
	default:
		panic(exception(api.RI))
	}
}

// control does a word whose highest six bits are 16.
func (g *guest) control(w, t uint32, place *uint32, slot bool) {
	d := w >> 11 % 32
	told := map[uint32]*uint32{8: &g.s.Bad, 11: &g.s.Compare, 12: &g.s.Status, 13: &g.s.Cause, 14: &g.s.EPC}
	count := uint32(g.s.Count)
	told[9] = &count
	from := told[d]
	switch {
	case w == 0x42000018 && g.s.Status&2 != 0 && !slot:
		g.s.PC, g.s.Next, g.s.Status = g.s.EPC, g.s.EPC+4, g.s.Status-2
	case w%2048 == 0 && w>>21%32 == 0 && from != nil:
		*place = *from
	case w%2048 == 0 && w>>21%32 == 4 && d == 12:
		g.s.Status = t % 4
	case w%2048 == 0 && w>>21%32 == 4 && (d == 11 || d == 14):
		*from = t
	default:
		panic(exception(api.RI))
	}
}

// reach tells whether an address is a device's, and raises an exception where there is nothing.
func (g *guest) reach(addr, size uint32, code exception) bool {
	device := size == 4 && addr >= 0x10000 && addr <= 0x1000C
	if addr%size != 0 || addr >= api.RamSize && !device {
		g.s.Bad = addr
		panic(code)
	}
	return device
}

func (g *guest) load(addr, size uint32) (v uint32) {
	if g.reach(addr, size, api.AdEL) {
		v = map[uint32]uint32{0x10004: uint32(g.s.Count), 0x10008: g.lamp}[addr]
		g.trace = append(g.trace, api.Access{Count: g.s.Count, Addr: addr, Value: v})
		return v
	}
	for _, x := range g.bytes[addr : addr+size] {
		v = v*256 + uint32(x)
	}
	return v
}

func (g *guest) store(addr, size, v uint32) {
	if g.reach(addr, size, api.AdES) {
		g.trace = append(g.trace, api.Access{Count: g.s.Count, Store: true, Addr: addr, Value: v})
		switch addr {
		case 0x10000:
			g.out = append(g.out, byte(v))
		case 0x10008:
			g.lamp = v
		}
		return
	}
	for n := range size {
		g.bytes[addr+n] = byte(v >> (8 * (size - 1 - n)))
	}
}

// numbers tells words from a fixed rule, each time another one.
func numbers(x uint32) func() uint32 {
	return func() uint32 {
		x ^= x << 13
		x ^= x >> 17
		x ^= x << 5
		return x
	}
}

// anyWord is mostly an instruction, of few registers, so that they meet; what it does not need is mostly 0.
func anyWord(next func() uint32) uint32 {
	w := next()&0xFFFF | next()%5<<21 | next()%5<<16
	minors := []uint32{0, 2, 3, 4, 6, 7, 8, 9, 12, 13, 16, 17, 18, 19, 24, 25, 26, 27, 32, 33, 34, 35, 36, 37, 38, 39, 42, 43, next() % 64}
	majors := []uint32{2, 3, 4, 5, 8, 9, 10, 11, 12, 13, 14, 32, 33, 35, 36, 37, 40, 41, 43, next() % 64}
	minor := minors[next()%uint32(len(minors))]
	switch next() % 8 {
	case 0, 1, 2:
		w = w&0x3FF0000 | next()%6<<11 | minor
		switch {
		case minor < 4:
			return w&0x1FFFFF | next()%32<<6
		case minor == 8 || minor == 17 || minor == 19:
			return w & 0x3E0003F
		case minor == 9:
			return w & 0x3E0F83F
		case minor == 12 || minor == 13:
			return minor
		case minor == 16 || minor == 18:
			return w & 0xF83F
		case minor >= 24 && minor < 28:
			return w & 0x3FF003F
		}
		return w
	case 3:
		return []uint32{16<<26 | 16<<21 | 24, 16<<26 | w&0x1F0000 | (8+next()%8)<<11, 16<<26 | 4<<21 | w&0x1F0000 | (10+next()%5)<<11}[next()%3]
	case 4:
		return []uint32{6<<26 | w&0x3E0FFFF, 7<<26 | w&0x3E0FFFF, 15<<26 | w&0x1FFFFF}[next()%3]
	case 5:
		return next()
	}
	return majors[next()%uint32(len(majors))]<<26 | w
}

// anyValue is often an edge, or an address of memory or of a device.
func anyValue(next func() uint32) uint32 {
	edges := []uint32{0, 1, 2, 31, 64, 4096, api.RamSize - 4, api.RamSize, api.Console, api.Clock, api.Lamp, api.LastIO, 1<<31 - 1, 1 << 31, ones, ones - 3, next()}
	if next()%2 == 0 {
		return next() % api.RamSize &^ 3
	}
	return edges[next()%uint32(len(edges))]
}

// anyState may be in a slot, in a handler, ahead of an interrupt, or at a place of no instruction.
func anyState(next func() uint32) api.State {
	s := api.State{Hi: anyValue(next), Lo: anyValue(next), PC: next() % api.RamSize &^ 3, Status: next() % 4, Cause: next(), EPC: anyValue(next), Bad: next(), Count: int(next())}
	for r := 1; r < 32; r++ {
		s.R[r] = anyValue(next)
	}
	switch next() % 8 {
	case 0:
		s.PC = anyValue(next)
	case 1:
		s.Compare = uint32(s.Count) + next()%5 - 2
	case 2:
		s.Count += 1 << 40
	}
	s.Next, s.Slot = s.PC+4, next()%4 == 0
	if s.Slot {
		s.Next = anyValue(next)
	}
	return s
}

// both is a guest and the package's processor, of one memory and one state.
func both(words []uint32, s api.State) (*guest, *api.State, *bus.Bus) {
	g := &guest{s: s}
	for n, w := range words {
		g.bytes[4*n], g.bytes[4*n+1], g.bytes[4*n+2], g.bytes[4*n+3] = byte(w>>24), byte(w>>16), byte(w>>8), byte(w)
	}
	return g, &s, bus.New(words)
}

// same tells whether a guest and a bus have one memory, and have done the same to devices.
func (g *guest) same(b *bus.Bus) bool {
	for n, w := range b.Ram().Words() {
		if w != uint32(g.bytes[4*n])<<24|uint32(g.bytes[4*n+1])<<16|uint32(g.bytes[4*n+2])<<8|uint32(g.bytes[4*n+3]) {
			return false
		}
	}
	return b.Output() == string(g.out) && b.Lamp() == g.lamp && slices.Equal(b.Trace(), g.trace)
}

// P60 to P62, P64: steps of any words in any states are as those worked out apart; each counts one, and register 0 is 0.
func TestStepsAreAsWorkedOutApart(t *testing.T) {
	next := numbers(2463534242)
	seen := map[int]int{}
	for range 150 {
		words := make([]uint32, api.RamSize/4)
		for n := range words {
			words[n] = anyWord(next)
		}
		g, s, b := both(words, anyState(next))
		for range 100 {
			if next()%4 == 0 {
				g.s = anyState(next)
				*s = g.s
			}
			before := *s
			want, got := g.step(), cpu.Step(s, b)
			seen[got]++
			if got != want || *s != g.s {
				t.Fatalf("%d, not %d, from\n     %+v\n got %+v\nwant %+v", got, want, before, *s, g.s)
			}
			if s.Count != before.Count+1 || s.R[0] != 0 {
				t.Fatalf("Count %d behind %d, register 0 %d", s.Count, before.Count, s.R[0])
			}
		}
		if !g.same(b) {
			t.Fatal("memory or devices are not the same")
		}
	}
	for _, code := range []int{-1, api.Int, api.AdEL, api.AdES, api.Sys, api.Bp, api.RI, api.Ov} {
		if seen[code] < 20 {
			t.Errorf("exception %d: seen only %d times", code, seen[code])
		}
	}
}

// P63: so many steps at once are as so many steps; and P2: once more, the same.
func TestRunIsSteps(t *testing.T) {
	next := numbers(88172645)
	for range 40 {
		words := make([]uint32, api.RamSize/4)
		for n := range words {
			words[n] = anyWord(next)
		}
		g, s, b := both(words, anyState(next))
		_, again, other := both(words, g.s)
		n := int(next() % 200)
		for range n {
			g.step()
		}
		if got := cpu.Run(s, b, n); got != n || *s != g.s || !g.same(b) {
			t.Fatalf("%d of %d:\n got %+v\nwant %+v", got, n, *s, g.s)
		}
		if cpu.Run(again, other, n); *again != *s || !g.same(other) {
			t.Fatal("once more, it is not the same")
		}
	}
}
