package cpu_test

import (
	"slices"
	"testing"

	"changeling/api"
	"changeling/bus"
	"changeling/cpu"
)

// P62: bytes of the word 0x92848678 at 4096.
func TestLoads(t *testing.T) {
	for _, c := range []struct {
		line string
		base uint32
		want uint32
	}{
		{"lw $6, 0($4)", 4096, 0x92848678}, {"lw $6, -4($4)", 4100, 0x92848678}, {"lw $6, 4096($4)", 0, 0x92848678}, {"lw $6, 32767($4)", 1<<32 - 28671, 0x92848678}, {"lw $6, -32768($4)", 36864, 0x92848678},
		{"lh $6, 0($4)", 4096, 0xFFFF9284}, {"lh $6, 2($4)", 4096, 0xFFFF8678}, {"lhu $6, 0($4)", 4096, 0x9284}, {"lhu $6, 2($4)", 4096, 0x8678},
		{"lb $6, 0($4)", 4096, 0xFFFFFF92}, {"lb $6, 1($4)", 4096, 0xFFFFFF84}, {"lb $6, 3($4)", 4096, 0x78}, {"lbu $6, 0($4)", 4096, 0x92}, {"lbu $6, 2($4)", 4096, 0x86}, {"lbu $6, 3($4)", 4096, 0x78},
		{"lw $6, 0($4)", 16380, 0}, {"lb $6, 0($4)", 16383, 0},
	} {
		s, b := given(c.base, 9), with(t, c.line, 64)
		if err := b.Ram().Store(4096, 4, 0x92848678); err != nil {
			t.Fatal(err)
		}
		words := b.Ram().Words()
		want := on(s)
		want.R[6] = c.want
		steps(t, c.line, s, b, -1, want)
		if !slices.Equal(b.Ram().Words(), words) || len(b.Trace()) != 0 {
			t.Errorf("%s: memory has changed", c.line)
		}
	}
}

// P62: a load may write the register of its address; register 0 stays 0.
func TestRegistersOfLoads(t *testing.T) {
	s := given(64, 9)
	want := on(s)
	want.R[4] = wordOf(t, "lw $4, 0($4)")
	steps(t, "of its own address", s, with(t, "lw $4, 0($4)", 64), -1, want)
	steps(t, "to register 0", s, with(t, "lw $0, 0($4)", 64), -1, on(s))
}

// P62
func TestStores(t *testing.T) {
	for _, c := range []struct {
		line  string
		base  uint32
		place uint32
		want  uint32
	}{
		{"sw $5, 0($4)", 4096, 4096, 0xA1B2C3D4}, {"sw $5, -8($4)", 4096, 4088, 0xA1B2C3D4}, {"sw $5, 0($4)", 16380, 16380, 0xA1B2C3D4},
		{"sh $5, 0($4)", 4096, 4096, 0xC3D41111}, {"sh $5, 2($4)", 4096, 4096, 0x1111C3D4},
		{"sb $5, 0($4)", 4096, 4096, 0xD4111111}, {"sb $5, 1($4)", 4096, 4096, 0x11D41111}, {"sb $5, 3($4)", 4096, 4096, 0x111111D4}, {"sb $5, -1($4)", 4096, 4092, 0x111111D4},
		{"sw $0, 0($4)", 4096, 4096, 0},
	} {
		s, b := given(c.base, 0xA1B2C3D4), with(t, c.line, 64)
		for _, at := range []uint32{4088, 4092, 4096, 16380} {
			if err := b.Ram().Store(at, 4, 0x11111111); err != nil {
				t.Fatal(err)
			}
		}
		words := b.Ram().Words()
		words[c.place/4] = c.want
		steps(t, c.line, s, b, -1, on(s))
		if !slices.Equal(b.Ram().Words(), words) || len(b.Trace()) != 0 {
			t.Errorf("%s: %08x at %d", c.line, b.Ram().Words()[c.place/4], c.place)
		}
	}
}

// P62: addresses that are none, of loads and of stores, just beyond the edges; Bad tells them.
func TestWrongAddresses(t *testing.T) {
	for _, c := range []struct {
		line string
		base uint32
		bad  uint32
		code uint32
	}{
		{"lw $6, 2($4)", 4096, 4098, api.AdEL}, {"lw $6, 1($4)", 0, 1, api.AdEL}, {"lh $6, 1($4)", 4096, 4097, api.AdEL}, {"lhu $6, -1($4)", 4096, 4095, api.AdEL},
		{"lw $6, 0($4)", 16384, 16384, api.AdEL}, {"lb $6, 0($4)", 16384, 16384, api.AdEL}, {"lhu $6, 2($4)", 16382, 16384, api.AdEL}, {"lbu $6, -1($4)", 0, ones, api.AdEL},
		{"lw $6, 0($4)", api.Console - 4, api.Console - 4, api.AdEL}, {"lw $6, 0($4)", api.LastIO + 4, api.LastIO + 4, api.AdEL}, {"lb $6, 0($4)", api.Lamp, api.Lamp, api.AdEL}, {"lhu $6, 0($4)", api.Clock, api.Clock, api.AdEL}, {"lw $6, 1($4)", api.Clock, api.Clock + 1, api.AdEL},
		{"lw $0, 2($4)", 4096, 4098, api.AdEL},
		{"sw $6, 2($4)", 4096, 4098, api.AdES}, {"sw $6, 3($4)", 0, 3, api.AdES}, {"sh $6, 1($4)", 4096, 4097, api.AdES},
		{"sw $6, 0($4)", 16384, 16384, api.AdES}, {"sh $6, 0($4)", 16384, 16384, api.AdES}, {"sb $6, 1($4)", 16383, 16384, api.AdES}, {"sb $6, -1($4)", 0, ones, api.AdES},
		{"sw $6, 0($4)", api.LastIO + 4, api.LastIO + 4, api.AdES}, {"sb $6, 0($4)", api.Console, api.Console, api.AdES}, {"sh $6, 0($4)", api.Lamp, api.Lamp, api.AdES}, {"sw $6, 2($4)", api.Console, api.Console + 2, api.AdES},
	} {
		for status := range uint32(4) {
			s, b := given(c.base, 9), with(t, c.line, 64)
			s.Status = status
			want := caught(s, c.code)
			want.Bad = c.bad
			steps(t, c.line, s, b, int(c.code), want)
			untouched(t, c.line, b)
		}
	}
}

// P62: devices see the count ahead of the step, also of a load to register 0, and tell what they have.
func TestDevices(t *testing.T) {
	b := bus.New([]uint32{wordOf(t, "sw $5, 0($4)"), wordOf(t, "lw $6, 4($4)"), wordOf(t, "sw $6, 8($4)"), wordOf(t, "lw $0, 4($4)"), wordOf(t, "lw $7, 8($4)"), wordOf(t, "sw $5, 12($4)")})
	s := cpu.New(0)
	s.R[4], s.R[5], s.Count = api.Console, 0x2141, 1<<32+90
	if n := cpu.Run(s, b, 6); n != 6 || s.R[6] != 91 || s.R[7] != 91 || s.R[0] != 0 || s.Cause != 0 || s.Count != 1<<32+96 {
		t.Errorf("%d: %+v", n, s)
	}
	want := []api.Access{
		{Count: 1<<32 + 90, Store: true, Addr: api.Console, Value: 0x2141},
		{Count: 1<<32 + 91, Addr: api.Clock, Value: 91},
		{Count: 1<<32 + 92, Store: true, Addr: api.Lamp, Value: 91},
		{Count: 1<<32 + 93, Addr: api.Clock, Value: 93},
		{Count: 1<<32 + 94, Addr: api.Lamp, Value: 91},
		{Count: 1<<32 + 95, Store: true, Addr: api.LastIO, Value: 0x2141},
	}
	if b.Output() != "A" || b.Lamp() != 91 || !slices.Equal(b.Trace(), want) {
		t.Errorf("%q, %d, %v", b.Output(), b.Lamp(), b.Trace())
	}
}

// P62: a store goes by the bus's own memory, which tells pages that are watched.
func TestStoresAreWatched(t *testing.T) {
	b := with(t, "sb $5, 0($4)", 64)
	if err := b.Ram().Watch(16, true); err != nil {
		t.Fatal(err)
	}
	s := given(4096+255, 9)
	steps(t, "sb", s, b, -1, on(s))
	if hits := b.Ram().Hits(); !slices.Equal(hits, []int{16}) {
		t.Errorf("Hits() = %v", hits)
	}
}
