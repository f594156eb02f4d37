/-
  Package opt: which registers an op reads and writes.
-/
import Derived.Test.YtcccaejjhodnkabGreatDoorKPure
import Derived.Test.YtcccaejjhodnkabGreatDoorQIrChk
import Derived.Test.YtcccaejjhodnkabGreatDoorKOptPure
namespace Go.Proofs.YtcccaejjhodnkabGreatDoor
open Go.RowKit Go.Maps
open Num
set_option linter.unusedVariables false
theorem bcellO {w w1 : World} {c : Array Value} {t : TypeId} (hb : Below (w.alloc (.cells c t)).heap.size (w.alloc (.cells c t)) w1) : (∀ o, w1.cell? ⟨w.heap.size, o, none⟩ = (w.alloc (.cells c t)).cell? ⟨w.heap.size, o, none⟩) ∧ (∀ o, w1.frozen? ⟨w.heap.size, o, none⟩ = (w.alloc (.cells c t)).frozen? ⟨w.heap.size, o, none⟩) :=
  ⟨fun o => hb.cell (p := ⟨w.heap.size, o, none⟩) (by simp), fun o => hb.frozen (p := ⟨w.heap.size, o, none⟩) (by simp)⟩
theorem below_drewN {B : Nat} {w w' : World} (h : Below B w w') (n : Nat) : Below B w (w'.drewN n) := ⟨h.os, h.tape, h.output, h.size, h.block⟩
def b2 (n m : Nat) : Bool := decide (n = m)
def regV (k : Nat) : Value := .tuple #[.bool (b2 (rD k) 2), .bool (b2 (rA k) 1), .bool (b2 (rB k) 1)]
set_option maxHeartbeats 1000000 in
theorem registers_any (s : ByteArray) (w : World) : Calls Tryz.prog 90 #[.string s] w fun e w' => e = .returned (regV (kn s)) ∧ Below w.heap.size w w' := by
  have hsh := fun w => shapeOf_any s w
  unfold shpV at hsh
  have e1 : Hid (b2 (rD (kn s)) 2 = ((rD (kn s) : Int) == 2)) := by show _ = _; unfold b2; rw [Bool.eq_iff_iff]; simp; omega
  have e2 : Hid (b2 (rA (kn s)) 1 = ((rA (kn s) : Int) == 1)) := by show _ = _; unfold b2; rw [Bool.eq_iff_iff]; simp; omega
  have e3 : Hid (b2 (rB (kn s)) 1 = ((rB (kn s) : Int) == 1)) := by show _ = _; unfold b2; rw [Bool.eq_iff_iff]; simp; omega
  unfold regV
  rw [e1.out, e2.out, e3.out]
  generalize (rD (kn s) : Int) = rd at *
  generalize (rA (kn s) : Int) = ra at *
  generalize (rB (kn s) : Int) = rb at *
  generalize rI (kn s) = ri at *
  generalize decide (kn s ≠ 0) = rk at *
  clear e1 e2 e3
  go_enter Tryz.func90, Tryz.ntmps90
  go_wp2_with fail
  refine (hsh _).mono ?_
  rintro e w1 ⟨rfl, hb1⟩
  clear hsh
  go_wp2
  go_quiet (fail)
  go_wp2
  exact bodyPost_ret (v := .tuple #[.bool (rd == 2), .bool (ra == 1), .bool (rb == 1)]) (by simp [results, Tryz.results90, go_sem]) rfl ⟨rfl, below_drewN (hb1.alloc hb1.size _) nq⟩
set_option maxHeartbeats 1000000 in
theorem writes_any (o : Opx) (w : World) : Calls Tryz.prog 76 #[opV o] w fun e w' => e = .returned (.int .i64 (wrX o)) ∧ Below w.heap.size w w' := by
  have hr := fun w => registers_any o.s w
  unfold regV at hr
  have HW : Hid (wrX o = if b2 (rD (kn o.s)) 2 = true then o.d else 0) := by
    show _ = _; unfold wrX b2 Opx.k; simp
  generalize b2 (rD (kn o.s)) 2 = x1 at *
  generalize b2 (rA (kn o.s)) 1 = x2 at *
  generalize b2 (rB (kn o.s)) 1 = x3 at *
  unfold opV
  cases x1 with
  | true =>
    go_enter Tryz.func76, Tryz.ntmps76
    go_wp2_with fail
    refine (hr _).mono ?_
    rintro e w1 ⟨rfl, hb1⟩
    obtain ⟨c, hf⟩ := bcellO hb1
    have hz : w.heap.size < w1.heap.size := by have := hb1.size; simp at this; omega
    have HB : Hid (Below w.heap.size w w1) := ((Below.refl _ _).alloc (Nat.le_refl _) _).trans (hb1.mono (by simp))
    clear hr hb1
    go_wp2
    go_ret
    exact ⟨by rw [HW.out]; rfl, HB.out⟩
  | false =>
    go_enter Tryz.func76, Tryz.ntmps76
    go_wp2_with fail
    refine (hr _).mono ?_
    rintro e w1 ⟨rfl, hb1⟩
    have HB : Hid (Below w.heap.size w w1) := ((Below.refl _ _).alloc (Nat.le_refl _) _).trans (hb1.mono (by simp))
    clear hr hb1
    go_wp2
    go_ret
    exact ⟨by rw [HW.out]; rfl, HB.out⟩
end Go.Proofs.YtcccaejjhodnkabGreatDoor
/-
  Package opt: Reads.
-/
namespace Go.Proofs.YtcccaejjhodnkabGreatDoor
open Go.RowKit Go.Maps
open Num
set_option linter.unusedVariables false
theorem infoInt : (Tryz.prog.info? 3).map (fun i => (i.zero, i.size, i.bytes)) = some (some (.int .i64 0), 1, 8) := by kernel_rfl
theorem own_posg {w : World} {base : Nat} {e : TypeId} {size n : Nat} {v : Value} {xs : List Value} (h : w.ownsRow base e size v (n + 1) xs) : ∃ g cap, v = .slice (some ⟨g, 0, none⟩) (n + 1) cap ∧ base ≤ g := by
  rcases h.2 with ⟨_, h⟩ | ⟨g, cap, cur, rfl, hb, _⟩
  · omega
  · exact ⟨g, cap, rfl, hb⟩
theorem own_mono {w : World} {base base' : Nat} {e : TypeId} {size n : Nat} {v : Value} {xs : List Value} (h : w.ownsRow base e size v n xs) (hb : base' ≤ base) : w.ownsRow base' e size v n xs := by
  refine ⟨h.1, ?_⟩
  rcases h.2 with hn | ⟨g, cap, cur, rfl, hbg, hgg, rest⟩
  · exact .inl hn
  · exact .inr ⟨g, cap, cur, rfl, Nat.le_trans hb hbg, hgg, rest⟩
end Go.Proofs.YtcccaejjhodnkabGreatDoor
