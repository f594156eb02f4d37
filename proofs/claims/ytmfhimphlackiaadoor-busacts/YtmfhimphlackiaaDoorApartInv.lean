/-
  What holds between the rounds of BusApart.
-/
import Derived.Test.YtmfhimphlackiaaDoorApart
namespace Go.Proofs.YtmfhimphlackiaaDoor
open Go.RowKit Go.Maps
open Num
set_option linter.unusedVariables false
theorem Er.below {ps pa pf : Addr} {w w' : World} (E : Er ps pa pf w) (h : Below w.heap.size w w') : Er ps pa pf w' := E.stays h
/-- no page -/
def F0 : Int → Bool := fun _ => false
/-- what holds between the rounds -/
structure Inv (w wr : World) (base bb sb bp bw bh sb' bp' bw' bh' : Nat) (j N N' : Nat) (m : Nat → Int) (out : List Int) (lamp : Int) (tr : List Acc) (vo vt : Value) : Prop where
  n1 : N ≤ 64 + 2 * j
  n2 : N' ≤ 64 + 2 * j
  lo : out.length ≤ j
  lt : tr.length ≤ j
  B : BusIs wr base bb sb bp bw bh N m F0 F0 out lamp tr vo vt
  R : RamIs wr sb' bp' bw' bh' N' m F0 F0
  be : Below w.heap.size w wr
/-- the blocks of the one, and of the other -/
structure Apt (w0 base bb sb bp bw bh sb' bp' bw' bh' : Nat) : Prop where
  b1 : w0 ≤ bb
  b2 : w0 ≤ bp
  b3 : w0 ≤ bh
  r1 : w0 ≤ bp'
  r2 : w0 ≤ bh'
  w0 : w0 ≤ base
  l1 : sb' < base
  l2 : bp' < base
  l3 : bw' < base
  l4 : bh' < base
  a : ∀ k, k = bb ∨ k = sb ∨ k = bp ∨ k = bw ∨ k = bh → k ≠ sb' ∧ k ≠ bp' ∧ k ≠ bw' ∧ k ≠ bh'
theorem Apt.ne {w0 base bb sb bp bw bh sb' bp' bw' bh' k : Nat} (A : Apt w0 base bb sb bp bw bh sb' bp' bw' bh') (hk : k = sb' ∨ k = bp' ∨ k = bw' ∨ k = bh') : k ≠ bb ∧ k ≠ bp ∧ k ≠ bh ∧ k < base := by
  have h1 := A.a bb (by simp)
  have h2 := A.a bp (by simp)
  have h3 := A.a bh (by simp)
  rcases hk with rfl | rfl | rfl | rfl
  · exact ⟨h1.1.symm, h2.1.symm, h3.1.symm, A.l1⟩
  · exact ⟨h1.2.1.symm, h2.2.1.symm, h3.2.1.symm, A.l2⟩
  · exact ⟨h1.2.2.1.symm, h2.2.2.1.symm, h3.2.2.1.symm, A.l3⟩
  · exact ⟨h1.2.2.2.symm, h2.2.2.2.symm, h3.2.2.2.symm, A.l4⟩
section
variable {w wr : World} {base bb sb bp bw bh sb' bp' bw' bh' : Nat} {j N N' : Nat} {m : Nat → Int} {out : List Int} {lamp : Int} {tr : List Acc} {vo vt : Value}
theorem Inv.stays {w' : World} (I : Inv w wr base bb sb bp bw bh sb' bp' bw' bh' j N N' m out lamp tr vo vt) (h : Below wr.heap.size wr w') : Inv w w' base bb sb bp bw bh sb' bp' bw' bh' j N N' m out lamp tr vo vt :=
  ⟨I.n1, I.n2, I.lo, I.lt, I.B.stays h, I.R.stays h (Nat.le_refl _), I.be.trans (h.mono I.be.size)⟩
theorem Inv.alloc (I : Inv w wr base bb sb bp bw bh sb' bp' bw' bh' j N N' m out lamp tr vo vt) (o : Obj) : Inv w (wr.alloc o) base bb sb bp bw bh sb' bp' bw' bh' j N N' m out lamp tr vo vt :=
  I.stays ((Below.refl _ _).alloc (Nat.le_refl _) o)
theorem Inv.drewN (I : Inv w wr base bb sb bp bw bh sb' bp' bw' bh' j N N' m out lamp tr vo vt) (n : Nat) : Inv w (wr.drewN n) base bb sb bp bw bh sb' bp' bw' bh' j N N' m out lamp tr vo vt :=
  I.stays (below_drewN (Below.refl _ _) n)
theorem Inv.next (I : Inv w wr base bb sb bp bw bh sb' bp' bw' bh' j N N' m out lamp tr vo vt) : Inv w wr base bb sb bp bw bh sb' bp' bw' bh' (j + 1) N N' m out lamp tr vo vt :=
  ⟨by have := I.n1; omega, by have := I.n2; omega, by have := I.lo; omega, by have := I.lt; omega, I.B, I.R, I.be⟩
/-- behind a device's act -/
theorem Inv.dev {w' : World} {out' : List Int} {lamp' : Int} {x : Acc} {vo' vt' : Value} (A : Apt w.heap.size base bb sb bp bw bh sb' bp' bw' bh') (I : Inv w wr base bb sb bp bw bh sb' bp' bw' bh' j N N' m out lamp tr vo vt) (B : BusIs w' base bb sb bp bw bh N m F0 F0 out' lamp' (tr ++ [x]) vo' vt') (t : BTurned wr w' bb bp bh vo vt) (hl : out'.length ≤ out.length + 1) : Inv w w' base bb sb bp bw bh sb' bp' bw' bh' (j + 1) N N' m out' lamp' (tr ++ [x]) vo' vt' := by
  have hv : ∀ k, k < base → vo.ownBlock ≠ some k ∧ vt.ownBlock ≠ some k := fun k hk => ⟨fun e => by have := (I.B.ro.lt k e).1; omega, fun e => by have := (I.B.rt.lt k e).1; omega⟩
  refine ⟨by have := I.n1; omega, by have := I.n2; omega, by have := I.lo; omega, by have := I.lt; simp; omega, B, I.R.blocks fun k hk => ?_, t.below (base := base) I.be (Nat.le_refl _) A.b1 A.b2 A.b3 (fun k e => by have := (I.B.ro.lt k e).1; have := A.w0; omega) (fun k e => by have := (I.B.rt.lt k e).1; have := A.w0; omega)⟩
  obtain ⟨h1, h2, h3, hb⟩ := A.ne hk
  exact t.block k (by have := I.B.bs; omega) h1 h2 h3 (hv k hb).1 (hv k hb).2
theorem F0_hit (p : Int) : (fun x => if x = p ∧ F0 p = true then true else F0 x) = F0 := by
  funext x; simp [F0]
/-- behind a store into both memories -/
theorem Inv.mem {w1 w2 : World} {m' : Nat → Int} (A : Apt w.heap.size base bb sb bp bw bh sb' bp' bw' bh') (I : Inv w wr base bb sb bp bw bh sb' bp' bw' bh' j N N' m out lamp tr vo vt) (B : BusIs w1 base bb sb bp bw bh (N + 2) m' F0 F0 out lamp tr vo vt) (t : Turned wr w1 bp bh) (R : RamIs w2 sb' bp' bw' bh' (N' + 2) m' F0 F0) (u : Turned w1 w2 bp' bh') : Inv w w2 base bb sb bp bw bh sb' bp' bw' bh' (j + 1) (N + 2) (N' + 2) m' out lamp tr vo vt := by
  refine ⟨by have := I.n1; omega, by have := I.n2; omega, by have := I.lo; omega, by have := I.lt; omega, B.turned u A.l2 A.l4 fun k hk => ⟨(A.a k hk).2.1, (A.a k hk).2.2.2⟩, R, u.below (t.below I.be (Nat.le_refl _) A.b2 A.b3) (Nat.le_refl _) A.r1 A.r2⟩
theorem Inv.other {w1 : World} {m' : Nat → Int} (A : Apt w.heap.size base bb sb bp bw bh sb' bp' bw' bh') (I : Inv w wr base bb sb bp bw bh sb' bp' bw' bh' j N N' m out lamp tr vo vt) (t : Turned wr w1 bp bh) : RamIs w1 sb' bp' bw' bh' N' m F0 F0 := by
  exact I.R.turned t (A.ne (Or.inl rfl)).2.1 (A.ne (Or.inl rfl)).2.2.1 (A.ne (Or.inr (Or.inl rfl))).2.1 (A.ne (Or.inr (Or.inl rfl))).2.2.1 (A.ne (Or.inr (Or.inr (Or.inl rfl)))).2.1 (A.ne (Or.inr (Or.inr (Or.inl rfl)))).2.2.1 (A.ne (Or.inr (Or.inr (Or.inr rfl)))).2.1 (A.ne (Or.inr (Or.inr (Or.inr rfl)))).2.2.1
/-- a variable of the round's own stays -/
theorem Inv.own (I : Inv w wr base bb sb bp bw bh sb' bp' bw' bh' j N N' m out lamp tr vo vt) {o : Obj} {w' : World} (t : BTurned (wr.alloc o) w' bb bp bh vo vt) (k : Nat) : w'.cell? ⟨wr.heap.size, k, none⟩ = (wr.alloc o).cell? ⟨wr.heap.size, k, none⟩ := by
  have h1 := I.B.lb
  have h2 := I.B.lp
  have h3 := I.B.lh
  have h4 := I.B.bs
  refine World.cell?_of_block (a := ⟨wr.heap.size, k, none⟩) (t.block wr.heap.size (by simp) (by omega) (by omega) (by omega) (fun e => ?_) (fun e => ?_))
  · have := (I.B.ro.lt _ e).2; omega
  · have := (I.B.rt.lt _ e).2; omega
end
/-- a load of an act -/
theorem load31 (w : World) (b off : Nat) (x : Ac) (h : ∀ (j : Nat) (u : Value), (acV x)[j]? = some u → w.cell? ⟨b, off + j, none⟩ = some u) :
    (loadVar 60 ⟨b, off, none⟩).run Tryd.prog w = .ok (.agg #[.bool x.st, .int .u32 x.a, .int .i64 x.s, .bool x.sg, .int .u32 x.v, .int .i64 x.c]) w := by
  have h0 := h 0 _ rfl
  have h1 := h 1 _ rfl
  have h2 := h 2 _ rfl
  have h3 := h 3 _ rfl
  have h4 := h 4 _ rfl
  have h5 := h 5 _ rfl
  simp only [Nat.add_zero] at h0
  simp [go_sem, loadVar, h0, h1, h2, h3, h4, h5]
end Go.Proofs.YtmfhimphlackiaaDoor
