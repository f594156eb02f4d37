/-
  The document's ResultOf: its boxes.
-/
import Derived.Test.YtjkencgcdlfjhaaGreatDoorJPlP
import Derived.Test.YtjkencgcdlfjhaaGreatDoorJDoc6
import Derived.Test.YtjkencgcdlfjhaaGreatDoorJBits
namespace Go.Proofs.YtjkencgcdlfjhaaGreatDoor
open Go.RowKit Go.Maps
open Num
set_option linter.unusedVariables false
def roV (r : Ro) : Value := .agg #[.int .u32 r.v, .int .u32 r.a, .bool r.trap, .bool r.leave]
/-- registers, the op, the answer: each in its box -/
structure RBx (w W : World) (x : Nat → Int) (o : Opx) : Prop where
  b : Below w.heap.size w W
  r : ∀ i, i < 64 → W.cell? ⟨w.heap.size, i, none⟩ = some (.int .u32 (x i))
  o0 : W.cell? ⟨w.heap.size + 1, 0, none⟩ = some (.string o.s)
  o1 : W.cell? ⟨w.heap.size + 1, 1, none⟩ = some (.int .i64 o.d)
  o2 : W.cell? ⟨w.heap.size + 1, 2, none⟩ = some (.int .i64 o.a)
  o3 : W.cell? ⟨w.heap.size + 1, 3, none⟩ = some (.int .i64 o.b)
  o4 : W.cell? ⟨w.heap.size + 1, 4, none⟩ = some (.int .u32 o.i)
  a0 : W.cell? ⟨w.heap.size + 1 + 1, 0, none⟩ = some (.int .u32 0)
  a1 : W.cell? ⟨w.heap.size + 1 + 1, 1, none⟩ = some (.int .u32 0)
  a2 : W.cell? ⟨w.heap.size + 1 + 1, 2, none⟩ = some (.bool false)
  a3 : W.cell? ⟨w.heap.size + 1 + 1, 3, none⟩ = some (.bool false)
  f0 : W.frozen? ⟨w.heap.size + 1 + 1, 0, none⟩ = false
  f1 : W.frozen? ⟨w.heap.size + 1 + 1, 1, none⟩ = false
  f2 : W.frozen? ⟨w.heap.size + 1 + 1, 2, none⟩ = false
  f3 : W.frozen? ⟨w.heap.size + 1 + 1, 3, none⟩ = false
  z : w.heap.size + 1 + 1 < W.heap.size
theorem RBx.drewN {w W : World} {x : Nat → Int} {o : Opx} (R : RBx w W x o) (n : Nat) : RBx w (W.drewN n) x o := ⟨below_drewN R.b n, R.r, R.o0, R.o1, R.o2, R.o3, R.o4, R.a0, R.a1, R.a2, R.a3, R.f0, R.f1, R.f2, R.f3, R.z⟩
theorem RBx.new (w : World) (xs : Array Value) (x : Nat → Int) (hx : ∀ i, i < 64 → xs[i]? = some (.int .u32 (x i))) (o : Opx) : RBx w (((w.alloc (.cells xs 118)).alloc (.cells #[.string o.s, .int .i64 o.d, .int .i64 o.a, .int .i64 o.b, .int .u32 o.i, .int .i64 o.t] 92)).alloc (.cells #[.int .u32 0, .int .u32 0, .bool false, .bool false] 160)) x o :=
  ⟨(((Below.refl _ _).alloc (Nat.le_refl _) _).alloc (by simp) _).alloc (by simp; omega) _, fun i hi => by rw [World.cell?_alloc_past _ _ _ (by simp; omega), World.cell?_alloc_past _ _ _ (by simp), World.cell?_alloc_at _ _ _ _ (by simp)]; exact hx i hi, by rw [World.cell?_alloc_past _ _ _ (by simp), World.cell?_alloc_at _ _ _ _ (by simp)]; rfl, by rw [World.cell?_alloc_past _ _ _ (by simp), World.cell?_alloc_at _ _ _ _ (by simp)]; rfl, by rw [World.cell?_alloc_past _ _ _ (by simp), World.cell?_alloc_at _ _ _ _ (by simp)]; rfl, by rw [World.cell?_alloc_past _ _ _ (by simp), World.cell?_alloc_at _ _ _ _ (by simp)]; rfl, by rw [World.cell?_alloc_past _ _ _ (by simp), World.cell?_alloc_at _ _ _ _ (by simp)]; rfl, by rw [World.cell?_alloc_at _ _ _ _ (by simp)]; rfl, by rw [World.cell?_alloc_at _ _ _ _ (by simp)]; rfl, by rw [World.cell?_alloc_at _ _ _ _ (by simp)]; rfl, by rw [World.cell?_alloc_at _ _ _ _ (by simp)]; rfl, World.frozen?_alloc_at _ _ _ _ (by simp), World.frozen?_alloc_at _ _ _ _ (by simp), World.frozen?_alloc_at _ _ _ _ (by simp), World.frozen?_alloc_at _ _ _ _ (by simp), by simp⟩
theorem res_load {w : World} {B : Nat} {a b c d : Value} (z0 : w.cell? ⟨B, 0, none⟩ = some a) (z1 : w.cell? ⟨B, 1, none⟩ = some b) (z2 : w.cell? ⟨B, 2, none⟩ = some c) (z3 : w.cell? ⟨B, 3, none⟩ = some d) : (loadVar 160 ⟨B, 0, none⟩).run Tryz.prog w = .ok (.agg #[a, b, c, d]) w := by
  simp [go_sem, z0, z1, z2, z3]
theorem ofs_ne {B i j : Nat} (h : i ≠ j) : (⟨B, i, none⟩ : Addr) ≠ ⟨B, j, none⟩ := by intro e; injection e with e1 e2; exact h e2
def put4 (W : World) (B : Nat) (a b c d : Value) : World := (((W.setCell ⟨B, 0, none⟩ a).setCell ⟨B, 1, none⟩ b).setCell ⟨B, 2, none⟩ c).setCell ⟨B, 3, none⟩ d
theorem res_put {w W : World} {x : Nat → Int} {o : Opx} (R : RBx w W x o) (a b c d : Value) :
    (loadVar 160 ⟨w.heap.size + 1 + 1, 0, none⟩).run Tryz.prog (put4 W (w.heap.size + 1 + 1) a b c d) = .ok (.agg #[a, b, c, d]) (put4 W (w.heap.size + 1 + 1) a b c d) ∧ Below w.heap.size w (put4 W (w.heap.size + 1 + 1) a b c d) := by
  constructor
  · have h0 := R.a0
    have h1 := R.a1
    have h2 := R.a2
    have h3 := R.a3
    generalize w.heap.size + 1 + 1 = B at *
    unfold put4
    refine res_load ?_ ?_ ?_ ?_
    · rw [World.cell?_setCell_other _ _ _ _ (ofs_ne (by omega)), World.cell?_setCell_other _ _ _ _ (ofs_ne (by omega)), World.cell?_setCell_other _ _ _ _ (ofs_ne (by omega))]; exact World.cell?_setCell_same _ _ _ h0
    · rw [World.cell?_setCell_other _ _ _ _ (ofs_ne (by omega)), World.cell?_setCell_other _ _ _ _ (ofs_ne (by omega))]; exact World.cell?_setCell_same _ _ _ (by rw [World.cell?_setCell_other _ _ _ _ (ofs_ne (by omega))]; exact h1)
    · rw [World.cell?_setCell_other _ _ _ _ (ofs_ne (by omega))]; exact World.cell?_setCell_same _ _ _ (by rw [World.cell?_setCell_other _ _ _ _ (ofs_ne (by omega)), World.cell?_setCell_other _ _ _ _ (ofs_ne (by omega))]; exact h2)
    · exact World.cell?_setCell_same _ _ _ (by rw [World.cell?_setCell_other _ _ _ _ (ofs_ne (by omega)), World.cell?_setCell_other _ _ _ _ (ofs_ne (by omega)), World.cell?_setCell_other _ _ _ _ (ofs_ne (by omega))]; exact h3)
  · unfold put4
    exact (((R.b.setCell (by show _ ≤ _ + 1 + 1; omega) _).setCell (by show _ ≤ _ + 1 + 1; omega) _).setCell (by show _ ≤ _ + 1 + 1; omega) _).setCell (by show _ ≤ _ + 1 + 1; omega) _
end Go.Proofs.YtjkencgcdlfjhaaGreatDoor
/-
  The document's ResultOf: set, copy, if, out, outr.
-/
namespace Go.Proofs.YtjkencgcdlfjhaaGreatDoor
open Go.RowKit Go.Maps
open Num
set_option linter.unusedVariables false
set_option maxRecDepth 100000 in
set_option maxHeartbeats 1000000 in
theorem resultOf_set (wt : Int → Bool) (m : Nat → Int) (xs : Array Value) (x : Nat → Int) (hx : ∀ i, i < 64 → xs[i]? = some (.int .u32 (x i))) (o : Opx) (hk : kn o.s = 1) (ha0 : 0 ≤ o.a) (ha1 : o.a < 64) (hb0 : 0 ≤ o.b) (hb1 : o.b < 64) (mp : Value) (w : World) :
    Calls Tryz.prog 77 #[.agg xs, mp, opV o] w fun e w' => e = .returned (roV (resZ wt x m o)) ∧ Below w.heap.size w w' := by
  have s23 : (o.s.toList == [108, 111, 97, 100]) = false := by rw [show (o.s.toList == [108, 111, 97, 100]) = _ from kn_eq o.s 23 (by omega) (by omega)]; simp; omega
  have s1 : (o.s.toList == [115, 101, 116]) = true := by rw [show (o.s.toList == [115, 101, 116]) = _ from kn_eq o.s 1 (by omega) (by omega)]; simpa using hk
  have s2 : (o.s.toList == [99, 111, 112, 121]) = false := by rw [show (o.s.toList == [99, 111, 112, 121]) = _ from kn_eq o.s 2 (by omega) (by omega)]; simp; omega
  have s21 : (o.s.toList == [111, 118, 101, 114, 43]) = false := by rw [show (o.s.toList == [111, 118, 101, 114, 43]) = _ from kn_eq o.s 21 (by omega) (by omega)]; simp; omega
  have s22 : (o.s.toList == [111, 118, 101, 114, 45]) = false := by rw [show (o.s.toList == [111, 118, 101, 114, 45]) = _ from kn_eq o.s 22 (by omega) (by omega)]; simp; omega
  have s24 : (o.s.toList == [115, 116, 111, 114, 101]) = false := by rw [show (o.s.toList == [115, 116, 111, 114, 101]) = _ from kn_eq o.s 24 (by omega) (by omega)]; simp; omega
  have s25 : (o.s.toList == [105, 102]) = false := by rw [show (o.s.toList == [105, 102]) = _ from kn_eq o.s 25 (by omega) (by omega)]; simp; omega
  have s26 : (o.s.toList == [111, 117, 116]) = false := by rw [show (o.s.toList == [111, 117, 116]) = _ from kn_eq o.s 26 (by omega) (by omega)]; simp; omega
  have s27 : (o.s.toList == [111, 117, 116, 114]) = false := by rw [show (o.s.toList == [111, 117, 116, 114]) = _ from kn_eq o.s 27 (by omega) (by omega)]; simp; omega
  have HR : Hid (resZ wt x m o = ⟨o.i, 0, false, false⟩) := by show _ = _; unfold resZ Opx.k; rw [hk]; simp [valV]
  rw [show roV (resZ wt x m o) = _ from congrArg roV HR.out]
  have RB := RBx.new w xs x hx o
  unfold opV
  clear HR
  go_enter Tryz.func77, Tryz.ntmps77
  go_upto_region 1 with fail
  generalize (((w.alloc (.cells xs 118)).alloc (.cells #[.string o.s, .int .i64 o.d, .int .i64 o.a, .int .i64 o.b, .int .u32 o.i, .int .i64 o.t] 92)).alloc (.cells #[.int .u32 0, .int .u32 0, .bool false, .bool false] 160)) = W at *
  have HRB : Hid (RBx w W x o) := RB
  have ra := RB.r o.a.toNat (by omega)
  have rb := RB.r o.b.toNat (by omega)
  obtain ⟨_, _, o0, o1, o2, o3, o4, a0, a1, a2, a3, f0, f1, f2, f3, z⟩ := RB
  clear hx hk
  go_wp2
  obtain ⟨q1, q2⟩ := res_put HRB.out (.int .u32 (o.i)) (.int .u32 (0)) (.bool (false)) (.bool (false))
  refine bodyPost_ret (results_one_cell (A := ⟨w.heap.size + 1 + 1, 0, none⟩) rfl _ _ _ rfl q1) rfl ?_
  exact ⟨rfl, q2⟩
set_option maxRecDepth 100000 in
set_option maxHeartbeats 1000000 in
theorem resultOf_copy (wt : Int → Bool) (m : Nat → Int) (xs : Array Value) (x : Nat → Int) (hx : ∀ i, i < 64 → xs[i]? = some (.int .u32 (x i))) (o : Opx) (hk : kn o.s = 2) (ha0 : 0 ≤ o.a) (ha1 : o.a < 64) (hb0 : 0 ≤ o.b) (hb1 : o.b < 64) (mp : Value) (w : World) :
    Calls Tryz.prog 77 #[.agg xs, mp, opV o] w fun e w' => e = .returned (roV (resZ wt x m o)) ∧ Below w.heap.size w w' := by
  have s23 : (o.s.toList == [108, 111, 97, 100]) = false := by rw [show (o.s.toList == [108, 111, 97, 100]) = _ from kn_eq o.s 23 (by omega) (by omega)]; simp; omega
  have s1 : (o.s.toList == [115, 101, 116]) = false := by rw [show (o.s.toList == [115, 101, 116]) = _ from kn_eq o.s 1 (by omega) (by omega)]; simp; omega
  have s2 : (o.s.toList == [99, 111, 112, 121]) = true := by rw [show (o.s.toList == [99, 111, 112, 121]) = _ from kn_eq o.s 2 (by omega) (by omega)]; simpa using hk
  have s21 : (o.s.toList == [111, 118, 101, 114, 43]) = false := by rw [show (o.s.toList == [111, 118, 101, 114, 43]) = _ from kn_eq o.s 21 (by omega) (by omega)]; simp; omega
  have s22 : (o.s.toList == [111, 118, 101, 114, 45]) = false := by rw [show (o.s.toList == [111, 118, 101, 114, 45]) = _ from kn_eq o.s 22 (by omega) (by omega)]; simp; omega
  have s24 : (o.s.toList == [115, 116, 111, 114, 101]) = false := by rw [show (o.s.toList == [115, 116, 111, 114, 101]) = _ from kn_eq o.s 24 (by omega) (by omega)]; simp; omega
  have s25 : (o.s.toList == [105, 102]) = false := by rw [show (o.s.toList == [105, 102]) = _ from kn_eq o.s 25 (by omega) (by omega)]; simp; omega
  have s26 : (o.s.toList == [111, 117, 116]) = false := by rw [show (o.s.toList == [111, 117, 116]) = _ from kn_eq o.s 26 (by omega) (by omega)]; simp; omega
  have s27 : (o.s.toList == [111, 117, 116, 114]) = false := by rw [show (o.s.toList == [111, 117, 116, 114]) = _ from kn_eq o.s 27 (by omega) (by omega)]; simp; omega
  have HR : Hid (resZ wt x m o = ⟨x o.a.toNat, 0, false, false⟩) := by show _ = _; unfold resZ Opx.k; rw [hk]; simp [valV]
  rw [show roV (resZ wt x m o) = _ from congrArg roV HR.out]
  have RB := RBx.new w xs x hx o
  unfold opV
  clear HR
  go_enter Tryz.func77, Tryz.ntmps77
  go_upto_region 1 with fail
  generalize (((w.alloc (.cells xs 118)).alloc (.cells #[.string o.s, .int .i64 o.d, .int .i64 o.a, .int .i64 o.b, .int .u32 o.i, .int .i64 o.t] 92)).alloc (.cells #[.int .u32 0, .int .u32 0, .bool false, .bool false] 160)) = W at *
  have HRB : Hid (RBx w W x o) := RB
  have ra := RB.r o.a.toNat (by omega)
  have rb := RB.r o.b.toNat (by omega)
  obtain ⟨_, _, o0, o1, o2, o3, o4, a0, a1, a2, a3, f0, f1, f2, f3, z⟩ := RB
  clear hx hk
  go_wp2
  obtain ⟨q1, q2⟩ := res_put HRB.out (.int .u32 (x o.a.toNat)) (.int .u32 (0)) (.bool (false)) (.bool (false))
  refine bodyPost_ret (results_one_cell (A := ⟨w.heap.size + 1 + 1, 0, none⟩) rfl _ _ _ rfl q1) rfl ?_
  exact ⟨rfl, q2⟩
set_option maxRecDepth 100000 in
set_option maxHeartbeats 1000000 in
theorem resultOf_out (wt : Int → Bool) (m : Nat → Int) (xs : Array Value) (x : Nat → Int) (hx : ∀ i, i < 64 → xs[i]? = some (.int .u32 (x i))) (o : Opx) (hk : kn o.s = 26) (ha0 : 0 ≤ o.a) (ha1 : o.a < 64) (hb0 : 0 ≤ o.b) (hb1 : o.b < 64) (mp : Value) (w : World) :
    Calls Tryz.prog 77 #[.agg xs, mp, opV o] w fun e w' => e = .returned (roV (resZ wt x m o)) ∧ Below w.heap.size w w' := by
  have s23 : (o.s.toList == [108, 111, 97, 100]) = false := by rw [show (o.s.toList == [108, 111, 97, 100]) = _ from kn_eq o.s 23 (by omega) (by omega)]; simp; omega
  have s1 : (o.s.toList == [115, 101, 116]) = false := by rw [show (o.s.toList == [115, 101, 116]) = _ from kn_eq o.s 1 (by omega) (by omega)]; simp; omega
  have s2 : (o.s.toList == [99, 111, 112, 121]) = false := by rw [show (o.s.toList == [99, 111, 112, 121]) = _ from kn_eq o.s 2 (by omega) (by omega)]; simp; omega
  have s21 : (o.s.toList == [111, 118, 101, 114, 43]) = false := by rw [show (o.s.toList == [111, 118, 101, 114, 43]) = _ from kn_eq o.s 21 (by omega) (by omega)]; simp; omega
  have s22 : (o.s.toList == [111, 118, 101, 114, 45]) = false := by rw [show (o.s.toList == [111, 118, 101, 114, 45]) = _ from kn_eq o.s 22 (by omega) (by omega)]; simp; omega
  have s24 : (o.s.toList == [115, 116, 111, 114, 101]) = false := by rw [show (o.s.toList == [115, 116, 111, 114, 101]) = _ from kn_eq o.s 24 (by omega) (by omega)]; simp; omega
  have s25 : (o.s.toList == [105, 102]) = false := by rw [show (o.s.toList == [105, 102]) = _ from kn_eq o.s 25 (by omega) (by omega)]; simp; omega
  have s26 : (o.s.toList == [111, 117, 116]) = true := by rw [show (o.s.toList == [111, 117, 116]) = _ from kn_eq o.s 26 (by omega) (by omega)]; simpa using hk
  have s27 : (o.s.toList == [111, 117, 116, 114]) = false := by rw [show (o.s.toList == [111, 117, 116, 114]) = _ from kn_eq o.s 27 (by omega) (by omega)]; simp; omega
  have HR : Hid (resZ wt x m o = ⟨0, o.i, false, true⟩) := by show _ = _; unfold resZ Opx.k; rw [hk]; rfl
  rw [show roV (resZ wt x m o) = _ from congrArg roV HR.out]
  have RB := RBx.new w xs x hx o
  unfold opV
  clear HR
  go_enter Tryz.func77, Tryz.ntmps77
  go_upto_region 1 with fail
  generalize (((w.alloc (.cells xs 118)).alloc (.cells #[.string o.s, .int .i64 o.d, .int .i64 o.a, .int .i64 o.b, .int .u32 o.i, .int .i64 o.t] 92)).alloc (.cells #[.int .u32 0, .int .u32 0, .bool false, .bool false] 160)) = W at *
  have HRB : Hid (RBx w W x o) := RB
  have ra := RB.r o.a.toNat (by omega)
  have rb := RB.r o.b.toNat (by omega)
  obtain ⟨_, _, o0, o1, o2, o3, o4, a0, a1, a2, a3, f0, f1, f2, f3, z⟩ := RB
  clear hx hk
  go_wp2
  obtain ⟨q1, q2⟩ := res_put HRB.out (.int .u32 (0)) (.int .u32 (o.i)) (.bool (false)) (.bool (true))
  refine bodyPost_ret (results_one_cell (A := ⟨w.heap.size + 1 + 1, 0, none⟩) rfl _ _ _ rfl q1) rfl ?_
  exact ⟨rfl, q2⟩
set_option maxRecDepth 100000 in
set_option maxHeartbeats 1000000 in
theorem resultOf_outr (wt : Int → Bool) (m : Nat → Int) (xs : Array Value) (x : Nat → Int) (hx : ∀ i, i < 64 → xs[i]? = some (.int .u32 (x i))) (o : Opx) (hk : kn o.s = 27) (ha0 : 0 ≤ o.a) (ha1 : o.a < 64) (hb0 : 0 ≤ o.b) (hb1 : o.b < 64) (mp : Value) (w : World) :
    Calls Tryz.prog 77 #[.agg xs, mp, opV o] w fun e w' => e = .returned (roV (resZ wt x m o)) ∧ Below w.heap.size w w' := by
  have s23 : (o.s.toList == [108, 111, 97, 100]) = false := by rw [show (o.s.toList == [108, 111, 97, 100]) = _ from kn_eq o.s 23 (by omega) (by omega)]; simp; omega
  have s1 : (o.s.toList == [115, 101, 116]) = false := by rw [show (o.s.toList == [115, 101, 116]) = _ from kn_eq o.s 1 (by omega) (by omega)]; simp; omega
  have s2 : (o.s.toList == [99, 111, 112, 121]) = false := by rw [show (o.s.toList == [99, 111, 112, 121]) = _ from kn_eq o.s 2 (by omega) (by omega)]; simp; omega
  have s21 : (o.s.toList == [111, 118, 101, 114, 43]) = false := by rw [show (o.s.toList == [111, 118, 101, 114, 43]) = _ from kn_eq o.s 21 (by omega) (by omega)]; simp; omega
  have s22 : (o.s.toList == [111, 118, 101, 114, 45]) = false := by rw [show (o.s.toList == [111, 118, 101, 114, 45]) = _ from kn_eq o.s 22 (by omega) (by omega)]; simp; omega
  have s24 : (o.s.toList == [115, 116, 111, 114, 101]) = false := by rw [show (o.s.toList == [115, 116, 111, 114, 101]) = _ from kn_eq o.s 24 (by omega) (by omega)]; simp; omega
  have s25 : (o.s.toList == [105, 102]) = false := by rw [show (o.s.toList == [105, 102]) = _ from kn_eq o.s 25 (by omega) (by omega)]; simp; omega
  have s26 : (o.s.toList == [111, 117, 116]) = false := by rw [show (o.s.toList == [111, 117, 116]) = _ from kn_eq o.s 26 (by omega) (by omega)]; simp; omega
  have s27 : (o.s.toList == [111, 117, 116, 114]) = true := by rw [show (o.s.toList == [111, 117, 116, 114]) = _ from kn_eq o.s 27 (by omega) (by omega)]; simpa using hk
  have HR : Hid (resZ wt x m o = ⟨0, x o.a.toNat, false, true⟩) := by show _ = _; unfold resZ Opx.k; rw [hk]; rfl
  rw [show roV (resZ wt x m o) = _ from congrArg roV HR.out]
  have RB := RBx.new w xs x hx o
  unfold opV
  clear HR
  go_enter Tryz.func77, Tryz.ntmps77
  go_upto_region 1 with fail
  generalize (((w.alloc (.cells xs 118)).alloc (.cells #[.string o.s, .int .i64 o.d, .int .i64 o.a, .int .i64 o.b, .int .u32 o.i, .int .i64 o.t] 92)).alloc (.cells #[.int .u32 0, .int .u32 0, .bool false, .bool false] 160)) = W at *
  have HRB : Hid (RBx w W x o) := RB
  have ra := RB.r o.a.toNat (by omega)
  have rb := RB.r o.b.toNat (by omega)
  obtain ⟨_, _, o0, o1, o2, o3, o4, a0, a1, a2, a3, f0, f1, f2, f3, z⟩ := RB
  clear hx hk
  go_wp2
  obtain ⟨q1, q2⟩ := res_put HRB.out (.int .u32 (0)) (.int .u32 (x o.a.toNat)) (.bool (false)) (.bool (true))
  refine bodyPost_ret (results_one_cell (A := ⟨w.heap.size + 1 + 1, 0, none⟩) rfl _ _ _ rfl q1) rfl ?_
  exact ⟨rfl, q2⟩
set_option maxRecDepth 100000 in
set_option maxHeartbeats 1000000 in
theorem resultOf_if (wt : Int → Bool) (m : Nat → Int) (xs : Array Value) (x : Nat → Int) (hx : ∀ i, i < 64 → xs[i]? = some (.int .u32 (x i))) (o : Opx) (hk : kn o.s = 25) (ha0 : 0 ≤ o.a) (ha1 : o.a < 64) (hb0 : 0 ≤ o.b) (hb1 : o.b < 64) (mp : Value) (w : World) :
    Calls Tryz.prog 77 #[.agg xs, mp, opV o] w fun e w' => e = .returned (roV (resZ wt x m o)) ∧ Below w.heap.size w w' := by
  have s23 : (o.s.toList == [108, 111, 97, 100]) = false := by rw [show (o.s.toList == [108, 111, 97, 100]) = _ from kn_eq o.s 23 (by omega) (by omega)]; simp; omega
  have s1 : (o.s.toList == [115, 101, 116]) = false := by rw [show (o.s.toList == [115, 101, 116]) = _ from kn_eq o.s 1 (by omega) (by omega)]; simp; omega
  have s2 : (o.s.toList == [99, 111, 112, 121]) = false := by rw [show (o.s.toList == [99, 111, 112, 121]) = _ from kn_eq o.s 2 (by omega) (by omega)]; simp; omega
  have s21 : (o.s.toList == [111, 118, 101, 114, 43]) = false := by rw [show (o.s.toList == [111, 118, 101, 114, 43]) = _ from kn_eq o.s 21 (by omega) (by omega)]; simp; omega
  have s22 : (o.s.toList == [111, 118, 101, 114, 45]) = false := by rw [show (o.s.toList == [111, 118, 101, 114, 45]) = _ from kn_eq o.s 22 (by omega) (by omega)]; simp; omega
  have s24 : (o.s.toList == [115, 116, 111, 114, 101]) = false := by rw [show (o.s.toList == [115, 116, 111, 114, 101]) = _ from kn_eq o.s 24 (by omega) (by omega)]; simp; omega
  have s25 : (o.s.toList == [105, 102]) = true := by rw [show (o.s.toList == [105, 102]) = _ from kn_eq o.s 25 (by omega) (by omega)]; simpa using hk
  have s26 : (o.s.toList == [111, 117, 116]) = false := by rw [show (o.s.toList == [111, 117, 116]) = _ from kn_eq o.s 26 (by omega) (by omega)]; simp; omega
  have s27 : (o.s.toList == [111, 117, 116, 114]) = false := by rw [show (o.s.toList == [111, 117, 116, 114]) = _ from kn_eq o.s 27 (by omega) (by omega)]; simp; omega
  have HR : Hid (resZ wt x m o = ⟨0, o.i, false, decide (x o.a.toNat ≠ 0)⟩) := by show _ = _; unfold resZ Opx.k; rw [hk]; rfl
  rw [show roV (resZ wt x m o) = _ from congrArg roV HR.out]
  have RB := RBx.new w xs x hx o
  unfold opV
  obtain ⟨lv, hlv⟩ : ∃ b, decide (x o.a.toNat ≠ 0) = b := ⟨_, rfl⟩
  have hlv2 : (x o.a.toNat != 0) = lv := by rw [← hlv, Bool.eq_iff_iff]; simp
  rw [hlv]
  clear hlv
  clear HR
  go_enter Tryz.func77, Tryz.ntmps77
  go_upto_region 1 with fail
  generalize (((w.alloc (.cells xs 118)).alloc (.cells #[.string o.s, .int .i64 o.d, .int .i64 o.a, .int .i64 o.b, .int .u32 o.i, .int .i64 o.t] 92)).alloc (.cells #[.int .u32 0, .int .u32 0, .bool false, .bool false] 160)) = W at *
  have HRB : Hid (RBx w W x o) := RB
  have ra := RB.r o.a.toNat (by omega)
  have rb := RB.r o.b.toNat (by omega)
  obtain ⟨_, _, o0, o1, o2, o3, o4, a0, a1, a2, a3, f0, f1, f2, f3, z⟩ := RB
  clear hx hk
  go_wp2
  obtain ⟨q1, q2⟩ := res_put HRB.out (.int .u32 (0)) (.int .u32 (o.i)) (.bool (false)) (.bool (lv))
  refine bodyPost_ret (results_one_cell (A := ⟨w.heap.size + 1 + 1, 0, none⟩) rfl _ _ _ rfl q1) rfl ?_
  exact ⟨rfl, q2⟩
end Go.Proofs.YtjkencgcdlfjhaaGreatDoor
/-
  The document's ResultOf: over+, over-, sums.
-/
namespace Go.Proofs.YtjkencgcdlfjhaaGreatDoor
open Go.RowKit Go.Maps
open Num
set_option linter.unusedVariables false
set_option maxRecDepth 100000 in
set_option maxHeartbeats 1000000 in
theorem resultOf_overp (wt : Int → Bool) (m : Nat → Int) (xs : Array Value) (x : Nat → Int) (hx : ∀ i, i < 64 → xs[i]? = some (.int .u32 (x i))) (o : Opx) (hk : kn o.s = 21) (ha0 : 0 ≤ o.a) (ha1 : o.a < 64) (hb0 : 0 ≤ o.b) (hb1 : o.b < 64) (hxb : ∀ i, i < 64 → 0 ≤ x i ∧ x i < 4294967296) (mp : Value) (w : World) :
    Calls Tryz.prog 77 #[.agg xs, mp, opV o] w fun e w' => e = .returned (roV (resZ wt x m o)) ∧ Below w.heap.size w w' := by
  have s23 : (o.s.toList == [108, 111, 97, 100]) = false := by rw [show (o.s.toList == [108, 111, 97, 100]) = _ from kn_eq o.s 23 (by omega) (by omega)]; simp; omega
  have s1 : (o.s.toList == [115, 101, 116]) = false := by rw [show (o.s.toList == [115, 101, 116]) = _ from kn_eq o.s 1 (by omega) (by omega)]; simp; omega
  have s2 : (o.s.toList == [99, 111, 112, 121]) = false := by rw [show (o.s.toList == [99, 111, 112, 121]) = _ from kn_eq o.s 2 (by omega) (by omega)]; simp; omega
  have s21 : (o.s.toList == [111, 118, 101, 114, 43]) = true := by rw [show (o.s.toList == [111, 118, 101, 114, 43]) = _ from kn_eq o.s 21 (by omega) (by omega)]; simpa using hk
  have s22 : (o.s.toList == [111, 118, 101, 114, 45]) = false := by rw [show (o.s.toList == [111, 118, 101, 114, 45]) = _ from kn_eq o.s 22 (by omega) (by omega)]; simp; omega
  have s24 : (o.s.toList == [115, 116, 111, 114, 101]) = false := by rw [show (o.s.toList == [115, 116, 111, 114, 101]) = _ from kn_eq o.s 24 (by omega) (by omega)]; simp; omega
  have s25 : (o.s.toList == [105, 102]) = false := by rw [show (o.s.toList == [105, 102]) = _ from kn_eq o.s 25 (by omega) (by omega)]; simp; omega
  have s26 : (o.s.toList == [111, 117, 116]) = false := by rw [show (o.s.toList == [111, 117, 116]) = _ from kn_eq o.s 26 (by omega) (by omega)]; simp; omega
  have s27 : (o.s.toList == [111, 117, 116, 114]) = false := by rw [show (o.s.toList == [111, 117, 116, 114]) = _ from kn_eq o.s 27 (by omega) (by omega)]; simp; omega
  have HR : Hid (resZ wt x m o = ⟨0, 0, ov (sg (x o.a.toNat) + sg (x o.b.toNat)), false⟩) := by show _ = _; unfold resZ Opx.k; rw [hk]; rfl
  rw [show roV (resZ wt x m o) = _ from congrArg roV HR.out]
  have RB := RBx.new w xs x hx o
  unfold opV
  have xa := hxb o.a.toNat (by omega)
  have xbd := hxb o.b.toNat (by omega)
  have sa := sg_bd xa.1 xa.2
  have sb := sg_bd xbd.1 xbd.2
  have h1 := fun w => signed_any (x o.a.toNat) xa.1 xa.2 w
  have h2 := fun w => signed_any (x o.b.toNat) xbd.1 xbd.2 w
  have h3 := fun w => isSigned_any (sg (x o.a.toNat) + sg (x o.b.toNat)) w
  obtain ⟨tr, htr⟩ : ∃ b, ov (sg (x o.a.toNat) + sg (x o.b.toNat)) = b := ⟨_, rfl⟩
  rw [htr] at h3 ⊢
  clear htr hxb
  obtain ⟨sa0, sa1⟩ := sa
  obtain ⟨sb0, sb1⟩ := sb
  clear HR
  go_enter Tryz.func77, Tryz.ntmps77
  go_upto_region 1 with fail
  generalize (((w.alloc (.cells xs 118)).alloc (.cells #[.string o.s, .int .i64 o.d, .int .i64 o.a, .int .i64 o.b, .int .u32 o.i, .int .i64 o.t] 92)).alloc (.cells #[.int .u32 0, .int .u32 0, .bool false, .bool false] 160)) = W at *
  have HRB : Hid (RBx w W x o) := RB
  have ra := RB.r o.a.toNat (by omega)
  have rb := RB.r o.b.toNat (by omega)
  obtain ⟨_, _, o0, o1, o2, o3, o4, a0, a1, a2, a3, f0, f1, f2, f3, z⟩ := RB
  clear hx hk
  generalize sg (x o.a.toNat) = sga at *
  generalize sg (x o.b.toNat) = sgb at *
  go_wp2_with fail
  refine (h1 _).mono ?_
  rintro e w1 ⟨rfl, hw⟩
  rw [hw]
  clear hw w1 h1
  go_wp2_with fail
  refine (h2 _).mono ?_
  rintro e w2 ⟨rfl, hw⟩
  rw [hw]
  clear hw w2 h2
  go_wp2_with fail
  refine (h3 _).mono ?_
  rintro e w3 ⟨rfl, hw⟩
  rw [hw]
  clear hw w3 h3
  cases tr with
  | false =>
    go_wp2
    obtain ⟨q1, q2⟩ := res_put HRB.out (.int .u32 (0)) (.int .u32 (0)) (.bool (false)) (.bool (false))
    refine bodyPost_ret (results_one_cell (A := ⟨w.heap.size + 1 + 1, 0, none⟩) rfl _ _ _ rfl q1) rfl ?_
    exact ⟨rfl, q2⟩
  | true =>
    go_wp2
    obtain ⟨q1, q2⟩ := res_put HRB.out (.int .u32 (0)) (.int .u32 (0)) (.bool (true)) (.bool (false))
    refine bodyPost_ret (results_one_cell (A := ⟨w.heap.size + 1 + 1, 0, none⟩) rfl _ _ _ rfl q1) rfl ?_
    exact ⟨rfl, q2⟩
set_option maxRecDepth 100000 in
set_option maxHeartbeats 1000000 in
theorem resultOf_overm (wt : Int → Bool) (m : Nat → Int) (xs : Array Value) (x : Nat → Int) (hx : ∀ i, i < 64 → xs[i]? = some (.int .u32 (x i))) (o : Opx) (hk : kn o.s = 22) (ha0 : 0 ≤ o.a) (ha1 : o.a < 64) (hb0 : 0 ≤ o.b) (hb1 : o.b < 64) (hxb : ∀ i, i < 64 → 0 ≤ x i ∧ x i < 4294967296) (mp : Value) (w : World) :
    Calls Tryz.prog 77 #[.agg xs, mp, opV o] w fun e w' => e = .returned (roV (resZ wt x m o)) ∧ Below w.heap.size w w' := by
  have s23 : (o.s.toList == [108, 111, 97, 100]) = false := by rw [show (o.s.toList == [108, 111, 97, 100]) = _ from kn_eq o.s 23 (by omega) (by omega)]; simp; omega
  have s1 : (o.s.toList == [115, 101, 116]) = false := by rw [show (o.s.toList == [115, 101, 116]) = _ from kn_eq o.s 1 (by omega) (by omega)]; simp; omega
  have s2 : (o.s.toList == [99, 111, 112, 121]) = false := by rw [show (o.s.toList == [99, 111, 112, 121]) = _ from kn_eq o.s 2 (by omega) (by omega)]; simp; omega
  have s21 : (o.s.toList == [111, 118, 101, 114, 43]) = false := by rw [show (o.s.toList == [111, 118, 101, 114, 43]) = _ from kn_eq o.s 21 (by omega) (by omega)]; simp; omega
  have s22 : (o.s.toList == [111, 118, 101, 114, 45]) = true := by rw [show (o.s.toList == [111, 118, 101, 114, 45]) = _ from kn_eq o.s 22 (by omega) (by omega)]; simpa using hk
  have s24 : (o.s.toList == [115, 116, 111, 114, 101]) = false := by rw [show (o.s.toList == [115, 116, 111, 114, 101]) = _ from kn_eq o.s 24 (by omega) (by omega)]; simp; omega
  have s25 : (o.s.toList == [105, 102]) = false := by rw [show (o.s.toList == [105, 102]) = _ from kn_eq o.s 25 (by omega) (by omega)]; simp; omega
  have s26 : (o.s.toList == [111, 117, 116]) = false := by rw [show (o.s.toList == [111, 117, 116]) = _ from kn_eq o.s 26 (by omega) (by omega)]; simp; omega
  have s27 : (o.s.toList == [111, 117, 116, 114]) = false := by rw [show (o.s.toList == [111, 117, 116, 114]) = _ from kn_eq o.s 27 (by omega) (by omega)]; simp; omega
  have HR : Hid (resZ wt x m o = ⟨0, 0, ov (sg (x o.a.toNat) - sg (x o.b.toNat)), false⟩) := by show _ = _; unfold resZ Opx.k; rw [hk]; rfl
  rw [show roV (resZ wt x m o) = _ from congrArg roV HR.out]
  have RB := RBx.new w xs x hx o
  unfold opV
  have xa := hxb o.a.toNat (by omega)
  have xbd := hxb o.b.toNat (by omega)
  have sa := sg_bd xa.1 xa.2
  have sb := sg_bd xbd.1 xbd.2
  have h1 := fun w => signed_any (x o.a.toNat) xa.1 xa.2 w
  have h2 := fun w => signed_any (x o.b.toNat) xbd.1 xbd.2 w
  have h3 := fun w => isSigned_any (sg (x o.a.toNat) - sg (x o.b.toNat)) w
  obtain ⟨tr, htr⟩ : ∃ b, ov (sg (x o.a.toNat) - sg (x o.b.toNat)) = b := ⟨_, rfl⟩
  rw [htr] at h3 ⊢
  clear htr hxb
  obtain ⟨sa0, sa1⟩ := sa
  obtain ⟨sb0, sb1⟩ := sb
  clear HR
  go_enter Tryz.func77, Tryz.ntmps77
  go_upto_region 1 with fail
  generalize (((w.alloc (.cells xs 118)).alloc (.cells #[.string o.s, .int .i64 o.d, .int .i64 o.a, .int .i64 o.b, .int .u32 o.i, .int .i64 o.t] 92)).alloc (.cells #[.int .u32 0, .int .u32 0, .bool false, .bool false] 160)) = W at *
  have HRB : Hid (RBx w W x o) := RB
  have ra := RB.r o.a.toNat (by omega)
  have rb := RB.r o.b.toNat (by omega)
  obtain ⟨_, _, o0, o1, o2, o3, o4, a0, a1, a2, a3, f0, f1, f2, f3, z⟩ := RB
  clear hx hk
  generalize sg (x o.a.toNat) = sga at *
  generalize sg (x o.b.toNat) = sgb at *
  go_wp2_with fail
  refine (h1 _).mono ?_
  rintro e w1 ⟨rfl, hw⟩
  rw [hw]
  clear hw w1 h1
  go_wp2_with fail
  refine (h2 _).mono ?_
  rintro e w2 ⟨rfl, hw⟩
  rw [hw]
  clear hw w2 h2
  go_wp2_with fail
  refine (h3 _).mono ?_
  rintro e w3 ⟨rfl, hw⟩
  rw [hw]
  clear hw w3 h3
  cases tr with
  | false =>
    go_wp2
    obtain ⟨q1, q2⟩ := res_put HRB.out (.int .u32 (0)) (.int .u32 (0)) (.bool (false)) (.bool (false))
    refine bodyPost_ret (results_one_cell (A := ⟨w.heap.size + 1 + 1, 0, none⟩) rfl _ _ _ rfl q1) rfl ?_
    exact ⟨rfl, q2⟩
  | true =>
    go_wp2
    obtain ⟨q1, q2⟩ := res_put HRB.out (.int .u32 (0)) (.int .u32 (0)) (.bool (true)) (.bool (false))
    refine bodyPost_ret (results_one_cell (A := ⟨w.heap.size + 1 + 1, 0, none⟩) rfl _ _ _ rfl q1) rfl ?_
    exact ⟨rfl, q2⟩
set_option maxRecDepth 100000 in
set_option maxHeartbeats 1000000 in
theorem resultOf_sum (wt : Int → Bool) (m : Nat → Int) (xs : Array Value) (x : Nat → Int) (hx : ∀ i, i < 64 → xs[i]? = some (.int .u32 (x i))) (o : Opx) (hk : 3 ≤ kn o.s ∧ kn o.s ≤ 16) (ha0 : 0 ≤ o.a) (ha1 : o.a < 64) (hb0 : 0 ≤ o.b) (hb1 : o.b < 64) (hxb : ∀ i, i < 64 → 0 ≤ x i ∧ x i < 4294967296) (mp : Value) (w : World) :
    Calls Tryz.prog 77 #[.agg xs, mp, opV o] w fun e w' => e = .returned (roV (resZ wt x m o)) ∧ Below w.heap.size w w' := by
  have s23 : (o.s.toList == [108, 111, 97, 100]) = false := by rw [show (o.s.toList == [108, 111, 97, 100]) = _ from kn_eq o.s 23 (by omega) (by omega)]; simp; omega
  have s1 : (o.s.toList == [115, 101, 116]) = false := by rw [show (o.s.toList == [115, 101, 116]) = _ from kn_eq o.s 1 (by omega) (by omega)]; simp; omega
  have s2 : (o.s.toList == [99, 111, 112, 121]) = false := by rw [show (o.s.toList == [99, 111, 112, 121]) = _ from kn_eq o.s 2 (by omega) (by omega)]; simp; omega
  have s21 : (o.s.toList == [111, 118, 101, 114, 43]) = false := by rw [show (o.s.toList == [111, 118, 101, 114, 43]) = _ from kn_eq o.s 21 (by omega) (by omega)]; simp; omega
  have s22 : (o.s.toList == [111, 118, 101, 114, 45]) = false := by rw [show (o.s.toList == [111, 118, 101, 114, 45]) = _ from kn_eq o.s 22 (by omega) (by omega)]; simp; omega
  have s24 : (o.s.toList == [115, 116, 111, 114, 101]) = false := by rw [show (o.s.toList == [115, 116, 111, 114, 101]) = _ from kn_eq o.s 24 (by omega) (by omega)]; simp; omega
  have s25 : (o.s.toList == [105, 102]) = false := by rw [show (o.s.toList == [105, 102]) = _ from kn_eq o.s 25 (by omega) (by omega)]; simp; omega
  have s26 : (o.s.toList == [111, 117, 116]) = false := by rw [show (o.s.toList == [111, 117, 116]) = _ from kn_eq o.s 26 (by omega) (by omega)]; simp; omega
  have s27 : (o.s.toList == [111, 117, 116, 114]) = false := by rw [show (o.s.toList == [111, 117, 116, 114]) = _ from kn_eq o.s 27 (by omega) (by omega)]; simp; omega
  have HR : Hid (resZ wt x m o = ⟨valV (kn o.s) (x o.a.toNat) (x o.b.toNat) (x o.d.toNat) o.i, 0, false, false⟩) := by show _ = _; unfold resZ Opx.k; rw [if_neg (by omega), if_neg (by omega), if_neg (by omega), if_neg (by omega), if_neg (by omega), if_neg (by omega), if_neg (by omega)]
  rw [show roV (resZ wt x m o) = _ from congrArg roV HR.out]
  have RB := RBx.new w xs x hx o
  unfold opV
  have xa := hxb o.a.toNat (by omega)
  have xbd := hxb o.b.toNat (by omega)
  have hd := fun w => isDiv_any o.s w
  have hs := fun w => sumOf_any (kn o.s) hk (x o.a.toNat) (x o.b.toNat) (x o.d.toNat) o.i xa.1 xa.2 xbd.1 xbd.2 w
  rw [← kn_word (s := o.s) (by omega)] at hs
  rw [show dvB (kn o.s) = false by unfold dvB; simp; omega] at hd
  obtain ⟨vv, hvv⟩ : ∃ v, valV (kn o.s) (x o.a.toNat) (x o.b.toNat) (x o.d.toNat) o.i = v := ⟨_, rfl⟩
  rw [hvv] at hs ⊢
  clear hvv hxb
  clear HR
  go_enter Tryz.func77, Tryz.ntmps77
  go_upto_region 1 with fail
  generalize (((w.alloc (.cells xs 118)).alloc (.cells #[.string o.s, .int .i64 o.d, .int .i64 o.a, .int .i64 o.b, .int .u32 o.i, .int .i64 o.t] 92)).alloc (.cells #[.int .u32 0, .int .u32 0, .bool false, .bool false] 160)) = W at *
  have HRB : Hid (RBx w W x o) := RB
  have ra := RB.r o.a.toNat (by omega)
  have rb := RB.r o.b.toNat (by omega)
  obtain ⟨_, _, o0, o1, o2, o3, o4, a0, a1, a2, a3, f0, f1, f2, f3, z⟩ := RB
  clear hx hk
  go_wp2_with fail
  refine (hd _).mono ?_
  rintro e w1 ⟨rfl, hw⟩
  rw [hw]
  clear hw w1 hd
  go_wp2_with fail
  refine (hs _).mono ?_
  rintro e w1 ⟨rfl, hw⟩
  rw [hw]
  clear hw w1 hs
  go_wp2
  obtain ⟨q1, q2⟩ := res_put HRB.out (.int .u32 (vv)) (.int .u32 (0)) (.bool (false)) (.bool (false))
  refine bodyPost_ret (results_one_cell (A := ⟨w.heap.size + 1 + 1, 0, none⟩) rfl _ _ _ rfl q1) rfl ?_
  exact ⟨rfl, q2⟩
end Go.Proofs.YtjkencgcdlfjhaaGreatDoor
