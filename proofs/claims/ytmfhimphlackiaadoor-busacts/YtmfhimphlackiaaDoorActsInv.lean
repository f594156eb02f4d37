/-
  What holds between the rounds of BusActs.
-/
import Derived.Test.YtmfhimphlackiaaDoorSeen
namespace Go.Proofs.YtmfhimphlackiaaDoor
open Go.RowKit Go.Maps
open Num
set_option linter.unusedVariables false
structure AInv (w wr : World) (base bb sb bp bw bh db rb gb kb : Nat) (j N : Nat) (m : Nat → Int) (out : List Int) (lamp : Int) (tr : List Acc) (vo vt vd : Value) : Prop where
  n1 : N ≤ 64 + 2 * j
  lo : out.length ≤ j
  lt : tr.length ≤ j
  B : BusIs wr base bb sb bp bw bh N m F0 F0 out lamp tr vo vt
  M : DBus wr base db rb gb kb m out lamp tr vd
  nv : ∀ k, vt.ownBlock = some k → vd.ownBlock ≠ some k
  be : Below w.heap.size w wr
/-- the blocks of the one, and of the other -/
structure AApt (w0 base bb sb bp bw bh db rb gb kb : Nat) : Prop where
  b1 : w0 ≤ bb
  b2 : w0 ≤ bp
  b3 : w0 ≤ bh
  d1 : w0 ≤ db
  d2 : w0 ≤ gb
  w0 : w0 ≤ base
  a : ∀ k, k = bb ∨ k = sb ∨ k = bp ∨ k = bw ∨ k = bh → k ≠ db ∧ k ≠ rb ∧ k ≠ gb ∧ k ≠ kb
section
variable {w wr : World} {base bb sb bp bw bh db rb gb kb : Nat} {j N : Nat} {m : Nat → Int} {out : List Int} {lamp : Int} {tr : List Acc} {vo vt vd : Value}
theorem AInv.stays {w' : World} (I : AInv w wr base bb sb bp bw bh db rb gb kb j N m out lamp tr vo vt vd) (h : Below wr.heap.size wr w') : AInv w w' base bb sb bp bw bh db rb gb kb j N m out lamp tr vo vt vd :=
  ⟨I.n1, I.lo, I.lt, I.B.stays h, I.M.stays h, I.nv, I.be.trans (h.mono I.be.size)⟩
theorem AInv.next (I : AInv w wr base bb sb bp bw bh db rb gb kb j N m out lamp tr vo vt vd) : AInv w wr base bb sb bp bw bh db rb gb kb (j + 1) N m out lamp tr vo vt vd :=
  ⟨by have := I.n1; omega, by have := I.lo; omega, by have := I.lt; omega, I.B, I.M, I.nv, I.be⟩
/-- behind an act of the program's bus: the document's is as it was -/
theorem AInv.half {w1 : World} (A : AApt w.heap.size base bb sb bp bw bh db rb gb kb) (I : AInv w wr base bb sb bp bw bh db rb gb kb j N m out lamp tr vo vt vd) (t : BTurned wr w1 bb bp bh vo vt) : DBus w1 base db rb gb kb m out lamp tr vd ∧ Below w.heap.size w w1 := by
  have hv : ∀ k, k < base → vo.ownBlock ≠ some k ∧ vt.ownBlock ≠ some k := fun k hk => ⟨fun e => by have := (I.B.ro.lt k e).1; omega, fun e => by have := (I.B.rt.lt k e).1; omega⟩
  have q1 := A.a bb (by simp)
  have q2 := A.a bp (by simp)
  have q3 := A.a bh (by simp)
  refine ⟨I.M.blocks t.size fun k hk => ?_, t.below (base := base) I.be (Nat.le_refl _) A.b1 A.b2 A.b3 (fun k e => by have := (I.B.ro.lt k e).1; have := A.w0; omega) (fun k e => by have := (I.B.rt.lt k e).1; have := A.w0; omega)⟩
  have hlt := I.M.lt hk
  rcases hk with rfl | rfl | rfl | rfl | hk
  · exact t.block _ hlt q1.1.symm q2.1.symm q3.1.symm (hv _ I.M.lb).1 (hv _ I.M.lb).2
  · exact t.block _ hlt q1.2.1.symm q2.2.1.symm q3.2.1.symm (hv _ I.M.lr).1 (hv _ I.M.lr).2
  · exact t.block _ hlt q1.2.2.1.symm q2.2.2.1.symm q3.2.2.1.symm (hv _ I.M.lg).1 (hv _ I.M.lg).2
  · exact t.block _ hlt q1.2.2.2.symm q2.2.2.2.symm q3.2.2.2.symm (hv _ I.M.lk).1 (hv _ I.M.lk).2
  · have hb := (I.M.rt.lt k hk).1
    have l1 := I.B.lb; have l2 := I.B.lp; have l3 := I.B.lh
    exact t.block k hlt (by omega) (by omega) (by omega) (fun e => rows_apart I.B.ro I.M.rt (by decide) e hk) (fun e => I.nv k e hk)
/-- behind both acts -/
theorem AInv.both {w1 w2 : World} {N' : Nat} {m' : Nat → Int} {out' : List Int} {lamp' : Int} {tr' : List Acc} {vo' vt' vd' : Value} (A : AApt w.heap.size base bb sb bp bw bh db rb gb kb) (I : AInv w wr base bb sb bp bw bh db rb gb kb j N m out lamp tr vo vt vd)
    (t : BTurned wr w1 bb bp bh vo vt) (B : BusIs w1 base bb sb bp bw bh N' m' F0 F0 out' lamp' tr' vo' vt') (mv : Moved wr vt vt') (D : DBus w2 base db rb gb kb m' out' lamp' tr' vd') (u : DTurned w1 w2 db gb vd) (mo : Moved w1 vd vd') (hN : N' ≤ N + 2) (ho : out'.length ≤ out.length + 1) (ht : tr'.length ≤ tr.length + 1) :
    AInv w w2 base bb sb bp bw bh db rb gb kb (j + 1) N' m' out' lamp' tr' vo' vt' vd' := by
  obtain ⟨M1, be1⟩ := I.half A t
  have hg := M1.lg
  have hd := M1.lb
  have nv1 : ∀ k, vt'.ownBlock = some k → vd.ownBlock ≠ some k := by
    intro k hk e
    rcases mv k hk with h | h
    · exact I.nv k h e
    · have := (I.M.rt.lt k e).2; omega
  refine ⟨by have := I.n1; omega, by have := I.lo; omega, by have := I.lt; omega, B.blocks u.size fun k hk => ?_, D, fun k hk e => ?_, u.below be1 (Nat.le_refl _) A.d1 A.d2 (fun k e => by have := (M1.rt.lt k e).1; have := A.w0; omega)⟩
  · have hlt := B.lt hk
    have hA := A.a k
    rcases hk with h | h | h | h | h | h | h
    · have q := A.a k (by simp [h]); have := B.lb; exact u.block k hlt q.1 q.2.2.1 (fun e => by have := (M1.rt.lt k e).1; omega)
    · have q := A.a k (by simp [h]); have := B.ls; exact u.block k hlt q.1 q.2.2.1 (fun e => by have := (M1.rt.lt k e).1; omega)
    · have q := A.a k (by simp [h]); have := B.lp; exact u.block k hlt q.1 q.2.2.1 (fun e => by have := (M1.rt.lt k e).1; omega)
    · have q := A.a k (by simp [h]); have := B.lw; exact u.block k hlt q.1 q.2.2.1 (fun e => by have := (M1.rt.lt k e).1; omega)
    · have q := A.a k (by simp [h]); have := B.lh; exact u.block k hlt q.1 q.2.2.1 (fun e => by have := (M1.rt.lt k e).1; omega)
    · have := (B.ro.lt k h).1; exact u.block k hlt (by omega) (by omega) (fun e => rows_apart B.ro M1.rt (by decide) h e)
    · have := (B.rt.lt k h).1; exact u.block k hlt (by omega) (by omega) (fun e => nv1 k h e)
  · rcases mo k e with h | h
    · exact nv1 k hk h
    · have := (B.rt.lt k hk).2; omega
end
end Go.Proofs.YtmfhimphlackiaaDoor
