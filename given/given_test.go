// Package given holds tests of what is given whole: packages api and plain have no files but their own.
package given

import (
	"errors"
	"testing"

	"changeling/api"
	"changeling/plain"
)

// P5
func TestBounds(t *testing.T) {
	got := []int{api.RamSize, api.PageSize, api.Console, api.Clock, api.Lamp, api.LastIO, api.Vector, api.MaxLabel, api.MaxLines, api.MaxRegion, api.MaxOps, api.Temps, api.Gate, api.MaxKeep, api.MaxSteps, api.MaxScript, api.Workers, api.Hi, api.Lo}
	want := []int{16384, 256, 65536, 65540, 65544, 65548, 384, 12, 200, 24, 200, 64, 8, 40, 100000, 100, 16, 32, 33}
	for i, n := range want {
		if got[i] != n {
			t.Errorf("bound %d is %d, not %d", i, got[i], n)
		}
	}
}

// P5
func TestOperationsAreNumberedInOrder(t *testing.T) {
	for i, n := range []int{
		api.Bad, api.ISll, api.ISrl, api.ISra, api.ISllv, api.ISrlv, api.ISrav, api.IJr, api.IJalr, api.ISyscall,
		api.IBreak, api.IMfhi, api.IMthi, api.IMflo, api.IMtlo, api.IMult, api.IMultu, api.IDiv, api.IDivu, api.IAdd,
		api.IAddu, api.ISub, api.ISubu, api.IAnd, api.IOr, api.IXor, api.INor, api.ISlt, api.ISltu, api.IJ,
		api.IJal, api.IBeq, api.IBne, api.IBlez, api.IBgtz, api.IAddi, api.IAddiu, api.ISlti, api.ISltiu, api.IAndi,
		api.IOri, api.IXori, api.ILui, api.IMfc0, api.IMtc0, api.IEret, api.ILb, api.ILh, api.ILw, api.ILbu,
		api.ILhu, api.ISb, api.ISh, api.ISw, api.Ops,
	} {
		if n != i {
			t.Errorf("operation %d has the number %d", i, n)
		}
	}
	got := [7]int{api.Int, api.AdEL, api.AdES, api.Sys, api.Bp, api.RI, api.Ov}
	if want := [7]int{0, 4, 5, 8, 9, 10, 12}; got != want {
		t.Errorf("codes of exceptions: %v", got)
	}
}

// P5
func TestErrorsHaveTheirTextsAndNumbers(t *testing.T) {
	for i, c := range []struct {
		err  error
		text string
	}{
		{api.ErrText, "text"},
		{api.ErrBound, "bound"},
		{api.ErrShape, "shape"},
		{api.ErrKind, "kind"},
		{api.ErrName, "name"},
		{api.ErrNone, "none"},
		{api.ErrExist, "exist"},
		{api.ErrFull, "full"},
		{api.ErrAlign, "align"},
		{api.ErrFar, "far"},
	} {
		if c.err.Error() != "changeling: "+c.text {
			t.Errorf("error %d says %q", i, c.err.Error())
		}
		if code, at := plain.Code(c.err); code != i+1 || at != -1 {
			t.Errorf("%v, bare: %d at %d", c.err, code, at)
		}
		fault := &api.Fault{At: 5, Err: c.err}
		if code, at := plain.Code(fault); code != i+1 || at != 5 || fault.Error() != c.err.Error() {
			t.Errorf("%v, with its place: %d at %d, %q", c.err, code, at, fault.Error())
		}
	}
	if code, at := plain.Code(nil); code != 0 || at != -1 {
		t.Errorf("no error: %d at %d", code, at)
	}
	if code, at := plain.Code(errors.New("other")); code != -1 || at != -1 {
		t.Errorf("another error: %d at %d", code, at)
	}
}
