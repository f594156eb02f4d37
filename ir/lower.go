package ir

import (
	"changeling/api"
	"changeling/code"
	"changeling/region"
)

// Registers of a lowered code that are none of the guest's.
const (
	atOnce  = api.Lo + 1 + iota // what an instruction has at once
	decided                     // what a branch goes by: its slot may change the registers that it reads
	nowhere                     // what is loaded for register 0, which takes nothing
)

// lowering is a code on its way, with the instruction whose ops come next.
type lowering struct {
	Code
	at int
}

// Lower a region.
func Lower(r region.Region) (Code, error) {
	if err := checkRegion(r); err != nil {
		return Code{}, err
	}
	l := &lowering{Code: Code{PC: r.PC, Many: len(r.Ins)}}
	for n, i := range r.Ins {
		l.at = n
		l.lower(i)
	}
	l.leave(r)
	return l.Code, nil
}

// checkRegion asks for instructions as Form takes them.
func checkRegion(r region.Region) error {
	many, stores := len(r.Ins), 0
	switch {
	case many == 0:
		return api.ErrNone
	case many > api.MaxRegion:
		return api.ErrBound
	}
	for n, i := range r.Ins {
		kind := code.Kind(i.Op)
		if kind == "store" {
			stores++
		}
		if kind == "trap" || kind == "branch" && n != many-2 || stores > api.Gate {
			return api.ErrKind
		}
		if _, err := code.Encode(i); err != nil {
			return api.ErrKind
		}
	}
	return nil
}

// add an op of the instruction.
func (l *lowering) add(o api.Op) {
	o.At = l.at
	l.Ops = append(l.Ops, o)
}

// write adds an op that does nothing but write its register: for register 0 there is nothing to do.
func (l *lowering) write(o api.Op) {
	if o.D != 0 {
		l.add(o)
	}
}

func (l *lowering) lower(i api.Ins) {
	switch code.Kind(i.Op) {
	case "branch":
		l.branch(i)
	case "load":
		l.load(i)
	case "store":
		size, _ := code.Bytes(i.Op)
		l.add(api.Op{Kind: "store", D: size, A: i.S, B: i.T, Imm: code.Imm(i)})
	default:
		l.sum(i)
	}
}

// load: also what goes to register 0 may trap.
func (l *lowering) load(i api.Ins) {
	size, signed := code.Bytes(i.Op)
	if signed {
		size = -size
	}
	to := i.T
	if to == 0 {
		to = nowhere
	}
	l.add(api.Op{Kind: "load", D: to, A: i.S, B: size, Imm: code.Imm(i)})
}

func (l *lowering) sum(i api.Ins) {
	switch i.Op {
	case api.IMult:
		l.hiLo(i, "mulh", "mul")
	case api.IMultu:
		l.hiLo(i, "mulhu", "mul")
	case api.IDiv:
		l.hiLo(i, "rem", "quo")
	case api.IDivu:
		l.hiLo(i, "remu", "quou")
	case api.IMfhi:
		l.write(api.Op{Kind: "copy", D: i.D, A: api.Hi})
	case api.IMflo:
		l.write(api.Op{Kind: "copy", D: i.D, A: api.Lo})
	case api.IMthi:
		l.write(api.Op{Kind: "copy", D: api.Hi, A: i.S})
	case api.IMtlo:
		l.write(api.Op{Kind: "copy", D: api.Lo, A: i.S})
	case api.ILui:
		l.write(api.Op{Kind: "set", D: i.T, Imm: code.Imm(i) << 16})
	default:
		l.result(i)
	}
}

// hiLo writes both halves of a product, or a rest and its quotient.
func (l *lowering) hiLo(i api.Ins, hi, lo string) {
	l.write(api.Op{Kind: hi, D: api.Hi, A: i.S, B: i.T})
	l.write(api.Op{Kind: lo, D: api.Lo, A: i.S, B: i.T})
}

// result of two operands goes to one register.
func (l *lowering) result(i api.Ins) {
	d, a, b := operands(i)
	over := overOf(i.Op)
	if d == 0 && over == "" {
		return
	}
	if b == atOnce {
		l.write(api.Op{Kind: "set", D: b, Imm: code.Imm(i)})
	}
	if over != "" {
		l.add(api.Op{Kind: over, A: a, B: b})
	}
	l.write(api.Op{Kind: kindOf(i.Op), D: d, A: a, B: b})
}

// operands of an instruction with a result, as registers, and the one that takes it.
func operands(i api.Ins) (d, a, b int) {
	switch i.Op {
	case api.ISll, api.ISrl, api.ISra:
		return i.D, i.T, atOnce
	case api.ISllv, api.ISrlv, api.ISrav:
		return i.D, i.T, i.S
	case api.IAddi, api.IAddiu, api.ISlti, api.ISltiu, api.IAndi, api.IOri, api.IXori:
		return i.T, i.S, atOnce
	}
	return i.D, i.S, i.T
}

// overOf an operation is the op by which it traps; empty: it does not.
func overOf(op int) string {
	switch op {
	case api.IAdd, api.IAddi:
		return "over+"
	case api.ISub:
		return "over-"
	}
	return ""
}

// kindOf the op that makes an operation's result.
func kindOf(op int) string {
	switch op {
	case api.ISub, api.ISubu:
		return "sub"
	case api.IAnd, api.IAndi:
		return "and"
	case api.IOr, api.IOri:
		return "or"
	case api.IXor, api.IXori:
		return "xor"
	case api.INor:
		return "nor"
	case api.ISlt, api.ISlti:
		return "slt"
	case api.ISltu, api.ISltiu:
		return "sltu"
	case api.ISll, api.ISllv:
		return "shl"
	case api.ISrl, api.ISrlv:
		return "shr"
	case api.ISra, api.ISrav:
		return "sar"
	}
	return "add"
}

// branch decides, ahead of its slot, and links.
func (l *lowering) branch(i api.Ins) {
	switch i.Op {
	case api.IBeq, api.IBne:
		l.add(api.Op{Kind: "xor", D: decided, A: i.S, B: i.T})
	case api.IBlez, api.IBgtz:
		l.add(api.Op{Kind: "slt", D: decided, B: i.S})
	case api.IJr, api.IJalr:
		l.add(api.Op{Kind: "copy", D: decided, A: i.S})
	}
	link := l.PC + wordBytes*uint32(l.at+2)
	switch i.Op {
	case api.IJal:
		l.write(api.Op{Kind: "set", D: 31, Imm: link})
	case api.IJalr:
		l.write(api.Op{Kind: "set", D: i.D, Imm: link})
	}
}

// leave behind the last instruction: for where the branch goes to, if there is one.
func (l *lowering) leave(r region.Region) {
	behind := r.PC + uint32(region.Len(r))
	if region.Ends(r) != "branch" {
		l.out(behind)
		return
	}
	n := len(r.Ins) - 2
	i := r.Ins[n]
	target := code.Target(i, r.PC+wordBytes*uint32(n))
	switch i.Op {
	case api.IBne, api.IBgtz:
		l.either(target, behind)
	case api.IBeq, api.IBlez:
		l.either(behind, target)
	case api.IJr, api.IJalr:
		l.add(api.Op{Kind: "outr", A: decided})
	default:
		l.out(target)
	}
}

// either leaves for one place, if what was decided is not 0, or for another one.
func (l *lowering) either(yes, no uint32) {
	l.add(api.Op{Kind: "if", A: decided, Imm: yes})
	l.out(no)
}

func (l *lowering) out(to uint32) { l.add(api.Op{Kind: "out", Imm: to}) }
