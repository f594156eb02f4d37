package code

import (
	"changeling/api"
	"changeling/word"
)

// wordBytes is how far one instruction is from the next one.
const wordBytes = 4

// highestFour bits of a place, which a jump leaves as they are.
const highestFour = 0xF << 28

// Imm is what an instruction has at once, as a word. (Of a shift it is below 32: signed or not is one.)
func Imm(i api.Ins) uint32 {
	switch i.Op {
	case api.IAndi, api.IOri, api.IXori, api.ILui:
		return i.Imm
	}
	return word.Wide(i.Imm, 16, true)
}

// Bytes that a load or store moves: how many, and whether signed.
func Bytes(op int) (size int, signed bool) {
	switch op {
	case api.ILb, api.ILbu, api.ISb:
		return 1, op == api.ILb
	case api.ILh, api.ILhu, api.ISh:
		return 2, op == api.ILh
	}
	return wordBytes, false
}

// Target of a branch at a place, as far as the instruction tells it: jr and jalr go where a register says.
func Target(i api.Ins, pc uint32) uint32 {
	behind := pc + wordBytes
	switch i.Op {
	case api.IJ, api.IJal:
		return behind&highestFour | wordBytes*i.Imm
	}
	return behind + wordBytes*Imm(i)
}
