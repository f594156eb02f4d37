package ir_test

import (
	"fmt"
	"math"
	"slices"
	"testing"

	"changeling/api"
	"changeling/ir"
	"changeling/ram"
)

// guest is a code's state and memory worked out apart from the package: it counts with 64 bits, keeps bytes one by one, and gives a copy of itself up where it traps.
type guest struct {
	s       api.State
	x       [64]uint32
	bytes   [api.RamSize]byte
	watched [64]bool
}

// trap is what a guest panics with.
type trap struct{}

func signed(v uint32) int64 { return int64(v) - int64(v>>31)<<32 }

func truth(yes bool) uint32 {
	if yes {
		return 1
	}
	return 0
}

// small panics where a number is no signed word.
func small(v int64) {
	if v < -1<<31 || v >= 1<<31 {
		panic(trap{})
	}
}

// result of a kind with D, A and B; was is what D has.
func result(kind string, a, b, was uint32) uint32 {
	by := uint64(1) << (b % 32)
	switch kind {
	case "add":
		return uint32(signed(a) + signed(b))
	case "sub":
		return uint32(signed(a) - signed(b))
	case "and":
		return a & b
	case "or":
		return a ^ b ^ a&b
	case "xor":
		return (a &^ b) | (b &^ a)
	case "nor":
		return math.MaxUint32 - (a | b)
	case "slt":
		return truth(signed(a) < signed(b))
	case "sltu":
		return truth(uint64(a) < uint64(b))
	case "shl":
		return uint32(uint64(a) * by)
	case "shr":
		return uint32(uint64(a) / by)
	case "sar":
		return uint32(signed(a) >> (b % 32))
	case "mul":
		return uint32(uint64(a) * uint64(b))
	case "mulh":
		return uint32(signed(a) * signed(b) >> 32)
	case "mulhu":
		return uint32(uint64(a) * uint64(b) >> 32)
	}
	if b == 0 {
		return was
	}
	return map[string]uint32{"quo": uint32(signed(a) / signed(b)), "rem": uint32(signed(a) % signed(b)), "quou": uint32(uint64(a) / uint64(b)), "remu": uint32(uint64(a) % uint64(b))}[kind]
}

// at is an address of memory that has so many bytes.
func (g *guest) at(addr uint32, size int) uint32 {
	if addr%uint32(size) != 0 || addr >= api.RamSize {
		panic(trap{})
	}
	return addr
}

func (g *guest) load(addr uint32, size int) uint32 {
	negative := size < 0
	size = max(size, -size)
	var v int64
	for _, x := range g.bytes[g.at(addr, size):][:size] {
		v = 256*v + int64(x)
	}
	if limit := int64(1) << (8*size - 1); negative && v >= limit {
		v -= 2 * limit
	}
	return uint32(v)
}

func (g *guest) store(addr uint32, size int, v uint32) {
	if g.watched[g.at(addr, size)/256] {
		panic(trap{})
	}
	for n := size - 1; n >= 0; n-- {
		g.bytes[addr+uint32(n)] = byte(v)
		v /= 256
	}
}

// do an op, and tell whether it leaves, and where for.
func (g *guest) do(o api.Op) (to uint32, leaves bool) {
	switch o.Kind {
	case "set":
		g.x[o.D] = o.Imm
	case "copy":
		g.x[o.D] = g.x[o.A]
	case "over+":
		small(signed(g.x[o.A]) + signed(g.x[o.B]))
	case "over-":
		small(signed(g.x[o.A]) - signed(g.x[o.B]))
	case "load":
		g.x[o.D] = g.load(g.x[o.A]+o.Imm, o.B)
	case "store":
		g.store(g.x[o.A]+o.Imm, o.D, g.x[o.B])
	case "if":
		return o.Imm, g.x[o.A] > 0
	case "out":
		return o.Imm, true
	case "outr":
		return g.x[o.A], true
	default:
		g.x[o.D] = result(o.Kind, g.x[o.A], g.x[o.B], g.x[o.D])
	}
	return 0, false
}

// eval a code that is well.
func (g *guest) eval(c ir.Code) (end ir.End) {
	before := *g
	var at int
	defer func() {
		switch e := recover().(type) {
		case nil:
		case trap:
			*g = before
			end = ir.End{Trap: true, At: at}
		default:
			panic(e)
		}
	}()
	g.x = [64]uint32{32: g.s.Hi, 33: g.s.Lo}
	copy(g.x[:], g.s.R[:])
	for _, o := range c.Ops {
		at = o.At
		if to, leaves := g.do(o); leaves {
			copy(g.s.R[:], g.x[:])
			g.s.Hi, g.s.Lo, g.s.PC, g.s.Next = g.x[32], g.x[33], to, to+4
			g.s.Count += c.Many
			break
		}
	}
	return ir.End{}
}

// words of a guest's memory.
func (g *guest) words() []uint32 {
	var l []uint32
	for n := 0; n < api.RamSize; n += 4 {
		l = append(l, uint32(g.bytes[n])<<24|uint32(g.bytes[n+1])<<16|uint32(g.bytes[n+2])<<8|uint32(g.bytes[n+3]))
	}
	return l
}

// guestOf a state and memory.
func guestOf(s api.State, r *ram.Ram) *guest {
	g := &guest{s: s}
	for n, w := range r.Words() {
		g.bytes[4*n], g.bytes[4*n+1], g.bytes[4*n+2], g.bytes[4*n+3] = byte(w>>24), byte(w>>16), byte(w>>8), byte(w)
	}
	for n := range g.watched {
		g.watched[n] = r.Watched(uint32(256 * n))
	}
	return g
}

// numbers tells words from a fixed rule, each time another one.
func numbers(x uint32) func() uint32 {
	return func() uint32 {
		x ^= x << 13
		x ^= x >> 17
		x ^= x << 5
		return x
	}
}

// edges of words, and of memory.
func edges() []uint32 {
	return []uint32{0, 1, 2, 3, 4, 7, 31, 32, 33, 255, 256, 4096, 32767, 32768, 65535, api.RamSize - 4, api.RamSize - 1, api.RamSize, api.Console, api.Clock, api.LastIO, 1<<31 - 2, 1<<31 - 1, 1 << 31, 1<<31 + 1, 1<<32 - 32768, 1<<32 - 4, 1<<32 - 2, 1<<32 - 1}
}

// anyValue is an edge, an address of memory, or any.
func anyValue(next func() uint32) uint32 {
	switch next() % 4 {
	case 0:
		return next()
	case 1:
		return edges()[next()%uint32(len(edges()))]
	}
	return next() % 1024 &^ 3
}

// anyState at a place.
func anyState(next func() uint32, pc uint32) api.State {
	s := api.State{Hi: anyValue(next), Lo: anyValue(next), PC: pc, Next: pc + 4, Status: next() % 4, Cause: next(), EPC: next(), Bad: next(), Compare: next(), Count: int(next())}
	for n := 1; n < 32; n++ {
		s.R[n] = anyValue(next)
	}
	return s
}

// anyMemory, of which some pages are watched.
func anyMemory(next func() uint32) *ram.Ram {
	words := make([]uint32, 300)
	for n := range words {
		words[n] = next()
	}
	r := ram.New(words)
	for range next() % 3 {
		r.Watch(int(next()%5), true)
	}
	return r
}

// anyOp of few registers and mostly few addresses, so that they meet.
func anyOp(next func() uint32, r row, at int) api.Op {
	registers := []int{0, 1, 2, 3, 4, 31, 32, 33, 34, 35, 63}
	number := func(role byte) int {
		switch role {
		case 'w':
			return registers[1+next()%10]
		case 'r':
			return registers[next()%11]
		case 'l':
			return []int{1, 2, 4, -1, -2}[next()%5]
		case 's':
			return []int{1, 2, 4}[next()%3]
		}
		return 0
	}
	o := api.Op{Kind: r.kind, D: number(r.d), A: number(r.a), B: number(r.b), At: at}
	if r.imm {
		o.Imm = anyValue(next)
	}
	if near := next()%8 > 0; near && r.kind == "load" {
		o.A, o.Imm = 0, next()%32&^uint32(max(o.B, -o.B)-1)
	} else if near && r.kind == "store" {
		o.A, o.Imm = 0, next()%32&^uint32(o.D-1)
	}
	return o
}

// anyCode that is well, at a place.
func anyCode(next func() uint32, pc uint32) ir.Code {
	c := ir.Code{PC: pc, Many: int(1 + next()%24)}
	kinds := rows()
	at, stores := 0, 0
	for range next() % 60 {
		r := kinds[next()%uint32(len(kinds))]
		if next()%5 == 0 {
			r = kinds[4+next()%2]
		}
		switch {
		case r.kind == "out" || r.kind == "outr" || r.kind == "store" && stores == 8 || (r.kind == "if" || r.d == '-') && next()%4 > 0:
			continue
		case r.kind == "store":
			stores++
		}
		at = min(at+int(next()%3), c.Many-1)
		c.Ops = append(c.Ops, anyOp(next, r, at))
	}
	return ir.Code{PC: pc, Many: c.Many, Ops: append(c.Ops, anyOp(next, kinds[7+next()%2], c.Many-1))}
}

// P80, P82, P84: codes of any ops are as those worked out apart.
func TestCodesAreAsWorkedOutApart(t *testing.T) {
	next := numbers(2463534242)
	seen := map[string]int{}
	for n := range 6000 {
		c := anyCode(next, anyValue(next))
		s, r := anyState(next, c.PC), anyMemory(next)
		g := guestOf(s, r)
		ops := slices.Clone(c.Ops)
		want := g.eval(c)
		got, err := ir.Eval(c, &s, r)
		if err != nil || got != want || s != g.s {
			t.Fatalf("%d: %+v, %v, not %+v\n got %+v\nwant %+v\nof %+v", n, got, err, want, s, g.s, c)
		}
		if !slices.Equal(r.Words(), g.words()) || len(r.Hits()) > 0 {
			t.Fatalf("%d: memory is not the same behind %+v", n, c)
		}
		for page := range 64 {
			if r.Watched(uint32(256*page)) != g.watched[page] {
				t.Fatalf("%d: page %d: another watch", n, page)
			}
		}
		if !slices.Equal(c.Ops, ops) {
			t.Fatalf("%d: its ops have changed", n)
		}
		seen[fmt.Sprint("traps ", want.Trap)]++
	}
	if seen["traps true"] < 1000 || seen["traps false"] < 1000 {
		t.Errorf("too few: %v", seen)
	}
}
