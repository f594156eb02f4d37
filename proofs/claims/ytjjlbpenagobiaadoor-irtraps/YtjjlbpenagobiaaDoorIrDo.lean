/-
  Package ir: an op that goes on.
-/
import Derived.Test.YtjjlbpenagobiaaDoorIrOpen
import Derived.Test.YtjjlbpenagobiaaDoorIrRes
namespace Go.Proofs.YtjjlbpenagobiaaDoor
open Go.RowKit Go.Maps
open Num
set_option linter.unusedVariables false
section
variable {w : World} {base mb sb bp bw bh N : Nat} {X : Nat → Int} {p : List Pq} {vi : Value} {m : Nat → Int} {wt ht : Int → Bool}
/-- a register, written -/
theorem MAt.put {w : World} (M : MAt w base mb sb X p vi) (d : Nat) (hd : d < 64) (v : Int) (hv : u32 v) : MAt (w.setCell ⟨mb, d, none⟩ (.int .u32 v)) base mb sb (setX X d v) p vi := by
  have o : ∀ (j : Nat) (u : Value), j ≠ d → w.cell? ⟨mb, j, none⟩ = some u → (w.setCell ⟨mb, d, none⟩ (.int .u32 v)).cell? ⟨mb, j, none⟩ = some u := fun j u hj e => by
    rw [World.cell?_setCell_other _ _ _ _ (by intro e'; injection e' with e1 e2; exact hj e2.symm)]; exact e
  refine ⟨fun j hj => ?_, o _ _ (by omega) M.g0, o _ _ (by omega) M.g1, fun j => by rw [World.frozen?_setCell]; exact M.fz j, owns_blocks M.row (fun k hk => Below.heap_setCell w ⟨mb, d, none⟩ _ k (fun e => M.ne k hk e)), M.lb, M.ne, fun j => ?_, by simp; exact M.bs⟩
  · unfold setX
    by_cases e : j = d
    · subst e; rw [if_pos (by simp)]; exact World.cell?_setCell_same _ _ _ (M.x j hj)
    · rw [if_neg (by simpa using e)]; exact o _ _ e (M.x j hj)
  · unfold setX; split
    · exact hv
    · exact M.xb j
theorem MAt.drew {w : World} (M : MAt w base mb sb X p vi) : MAt w.drew base mb sb X p vi := ⟨M.x, M.g0, M.g1, M.fz, M.row, M.lb, M.ne, M.xb, M.bs⟩
theorem MAt.opened {w : World} (M : MAt w base mb sb X p vi) (o : Obj) : MAt (w.alloc o) base mb sb X p vi := M.stays ((Below.refl _ _).alloc (Nat.le_refl _) _)
theorem kl (k : Nat) (l : List UInt8) (h : kinds.getD k [] = l) : kindS k = ⟨l.toArray⟩ := by unfold kindS; rw [h]
/-- an op's box -/
structure OAt (W : World) (B : Nat) (s : ByteArray) (d a b i t : Int) : Prop where
  c0 : W.cell? ⟨B, 0, none⟩ = some (.string s)
  c1 : W.cell? ⟨B, 1, none⟩ = some (.int .i64 d)
  c2 : W.cell? ⟨B, 2, none⟩ = some (.int .i64 a)
  c3 : W.cell? ⟨B, 3, none⟩ = some (.int .i64 b)
  c4 : W.cell? ⟨B, 4, none⟩ = some (.int .u32 i)
  c5 : W.cell? ⟨B, 5, none⟩ = some (.int .i64 t)
theorem OAt.new (w : World) (s : ByteArray) (d a b i t : Int) : OAt (w.alloc (.cells #[.string s, .int .i64 d, .int .i64 a, .int .i64 b, .int .u32 i, .int .i64 t] 53)) w.heap.size s d a b i t := by
  refine ⟨?_, ?_, ?_, ?_, ?_, ?_⟩ <;> simp
theorem wrap_u32 (n : Int) : IntKind.u32.wrap n = lo n := by unfold lo; simp [IntKind.wrap, IntKind.signed, IntKind.bits]
theorem maxw (b : Int) (hb : b = 1 ∨ b = 2 ∨ b = 4 ∨ b = -1 ∨ b = -2) : max b (IntKind.i64.wrap (-b)) = if b < 0 then -b else b := by
  rcases hb with rfl | rfl | rfl | rfl | rfl <;> decide
theorem ld_u32 (m : Nat → Int) (a s : Int) (sg : Bool) (mb : ∀ i, 0 ≤ m i ∧ m i < 4294967296) : u32 (ld m a s sg) := by
  unfold ld u32
  have h := mb (a / 4).toNat
  have := ediv_bd (d := 2 ^ (bhd a s).toNat) h.1 (Int.pow_pos (by omega))
  exact wd_bd this.1 (by omega) sg
theorem OAt.drew {W : World} {B : Nat} {s : ByteArray} {d a b i t : Int} (O : OAt W B s d a b i t) : OAt W.drew B s d a b i t := ⟨O.c0, O.c1, O.c2, O.c3, O.c4, O.c5⟩
set_option maxRecDepth 100000 in
set_option maxHeartbeats 2000000 in
theorem do_21 (G : MAt w base mb sb X p vi) (a b : Nat) (ha : a < 64) (hb : b < 64) (d i t : Int) :
    Calls Tryd.prog 26 #[.pointer (some ⟨mb, 0, none⟩), .agg #[.string ⟨#[111, 118, 101, 114, 43]⟩, .int .i64 d, .int .i64 a, .int .i64 b, .int .u32 i, .int .i64 t]] w fun e w' => e = .returned (.bool (!ov (sg (X a) + sg (X b)))) ∧ MAt w' base mb sb X p vi ∧ Kx w w' mb vi := by
  have O := OAt.new w ⟨#[111, 118, 101, 114, 43]⟩ d a b i t
  have G0 := G.opened (.cells #[.string ⟨#[111, 118, 101, 114, 43]⟩, .int .i64 d, .int .i64 a, .int .i64 b, .int .u32 i, .int .i64 t] 53)
  have hB0 : Hid (Kx w (w.alloc (.cells #[.string ⟨#[111, 118, 101, 114, 43]⟩, .int .i64 d, .int .i64 a, .int .i64 b, .int .u32 i, .int .i64 t] 53)) mb vi) := Kx.alloc _ _ _ _
  have ha' : (a : Int) < 64 := by omega
  have hb' : (b : Int) < 64 := by omega
  obtain ⟨xa0, xa1⟩ := G.xb a
  obtain ⟨xb0, xb1⟩ := G.xb b
  have hcall := fun W => add_any (X a) (X b) xa0 xa1 xb0 xb1 W
  go_enter Tryd.func26, Tryd.ntmps26
  go_upto_region 4 with fail
  have hnb : w.heap.size ≠ mb := by have := G.lt; omega
  clear G
  generalize w.alloc (.cells #[.string ⟨#[111, 118, 101, 114, 43]⟩, .int .i64 d, .int .i64 a, .int .i64 b, .int .u32 i, .int .i64 t] 53) = V at *
  have k2 := O.c2
  have k3 := O.c3
  have xa := G0.x a ha
  have xb := G0.x b hb
  refine wp_region_phase 20 [(0, 0), (1, 0), (2, 1), (3, 0), (4, 0), (5, 0), (6, 1), (7, 0), (8, 0), (9, 1), (10, 0), (11, 0), (12, 0), (13, 1), (14, 2), (15, 0), (16, 0), (17, 0), (18, 0), (19, 0)] (fun W => W.cell? ⟨w.heap.size, 2, none⟩ = some (.int .i64 a) ∧ W.cell? ⟨w.heap.size, 3, none⟩ = some (.int .i64 b) ∧ W.cell? ⟨mb, a, none⟩ = some (.int .u32 (X a)) ∧ W.cell? ⟨mb, b, none⟩ = some (.int .u32 (X b))) (by kernel_rfl) (by kernel_rfl) (fun _ _ _ d _ h => by cases d <;> exact h) ⟨by simpa using k2, by simpa using k3, by simpa using xa, by simpa using xb⟩ ?_
  repeat (first | (refine wpPlanZ_free (by rfl) (by rfl) (fun W => by (go_simp; try with_reducible rfl)) (fun K hK => ?_); go_simp; refine hK _ ?_; clear hK K) | (refine wpPlanZ_quiet (by rfl) (by rfl) (fun W hW => by (obtain ⟨z0, z1, z2, z3⟩ := hW; go_simp; try with_reducible rfl)) (fun K hK => ?_); go_simp; refine hK _ ?_; clear hK K))
  refine wpPlanZ_serial (by rfl) (by rfl) (fun K hK => ?_)
  go_simp
  refine (hcall _).mono ?_
  rintro e w' ⟨rfl, rfl⟩
  refine hK _ _ (fun _ => ⟨by simpa using k2, by simpa using k3, by simpa using xa, by simpa using xb⟩) ?_
  clear hK K
  repeat (first | (refine wpPlanZ_free (by rfl) (by rfl) (fun W => by (go_simp; try with_reducible rfl)) (fun K hK => ?_); go_simp; refine hK _ ?_; clear hK K) | (refine wpPlanZ_quiet (by rfl) (by rfl) (fun W hW => by (obtain ⟨z0, z1, z2, z3⟩ := hW; go_simp; try with_reducible rfl)) (fun K hK => ?_); go_simp; refine hK _ ?_; clear hK K))
  refine wpPlanZ_nil ?_
  go_wp2
  go_ret
  exact ⟨rfl, G0.drew, hB0.out.drew⟩
set_option maxRecDepth 100000 in
set_option maxHeartbeats 2000000 in
theorem do_22 (G : MAt w base mb sb X p vi) (a b : Nat) (ha : a < 64) (hb : b < 64) (d i t : Int) :
    Calls Tryd.prog 26 #[.pointer (some ⟨mb, 0, none⟩), .agg #[.string ⟨#[111, 118, 101, 114, 45]⟩, .int .i64 d, .int .i64 a, .int .i64 b, .int .u32 i, .int .i64 t]] w fun e w' => e = .returned (.bool (!ov (sg (X a) - sg (X b)))) ∧ MAt w' base mb sb X p vi ∧ Kx w w' mb vi := by
  have O := OAt.new w ⟨#[111, 118, 101, 114, 45]⟩ d a b i t
  have G0 := G.opened (.cells #[.string ⟨#[111, 118, 101, 114, 45]⟩, .int .i64 d, .int .i64 a, .int .i64 b, .int .u32 i, .int .i64 t] 53)
  have hB0 : Hid (Kx w (w.alloc (.cells #[.string ⟨#[111, 118, 101, 114, 45]⟩, .int .i64 d, .int .i64 a, .int .i64 b, .int .u32 i, .int .i64 t] 53)) mb vi) := Kx.alloc _ _ _ _
  have ha' : (a : Int) < 64 := by omega
  have hb' : (b : Int) < 64 := by omega
  obtain ⟨xa0, xa1⟩ := G.xb a
  obtain ⟨xb0, xb1⟩ := G.xb b
  have hcall := fun W => sub_any (X a) (X b) xa0 xa1 xb0 xb1 W
  go_enter Tryd.func26, Tryd.ntmps26
  go_upto_region 7 with fail
  have hnb : w.heap.size ≠ mb := by have := G.lt; omega
  clear G
  generalize w.alloc (.cells #[.string ⟨#[111, 118, 101, 114, 45]⟩, .int .i64 d, .int .i64 a, .int .i64 b, .int .u32 i, .int .i64 t] 53) = V at *
  have k2 := O.c2
  have k3 := O.c3
  have xa := G0.x a ha
  have xb := G0.x b hb
  refine wp_region_phase 20 [(0, 0), (1, 0), (2, 1), (3, 0), (4, 0), (5, 0), (6, 1), (7, 0), (8, 0), (9, 1), (10, 0), (11, 0), (12, 0), (13, 1), (14, 2), (15, 0), (16, 0), (17, 0), (18, 0), (19, 0)] (fun W => W.cell? ⟨w.heap.size, 2, none⟩ = some (.int .i64 a) ∧ W.cell? ⟨w.heap.size, 3, none⟩ = some (.int .i64 b) ∧ W.cell? ⟨mb, a, none⟩ = some (.int .u32 (X a)) ∧ W.cell? ⟨mb, b, none⟩ = some (.int .u32 (X b))) (by kernel_rfl) (by kernel_rfl) (fun _ _ _ d _ h => by cases d <;> exact h) ⟨by simpa using k2, by simpa using k3, by simpa using xa, by simpa using xb⟩ ?_
  repeat (first | (refine wpPlanZ_free (by rfl) (by rfl) (fun W => by (go_simp; try with_reducible rfl)) (fun K hK => ?_); go_simp; refine hK _ ?_; clear hK K) | (refine wpPlanZ_quiet (by rfl) (by rfl) (fun W hW => by (obtain ⟨z0, z1, z2, z3⟩ := hW; go_simp; try with_reducible rfl)) (fun K hK => ?_); go_simp; refine hK _ ?_; clear hK K))
  refine wpPlanZ_serial (by rfl) (by rfl) (fun K hK => ?_)
  go_simp
  refine (hcall _).mono ?_
  rintro e w' ⟨rfl, rfl⟩
  refine hK _ _ (fun _ => ⟨by simpa using k2, by simpa using k3, by simpa using xa, by simpa using xb⟩) ?_
  clear hK K
  repeat (first | (refine wpPlanZ_free (by rfl) (by rfl) (fun W => by (go_simp; try with_reducible rfl)) (fun K hK => ?_); go_simp; refine hK _ ?_; clear hK K) | (refine wpPlanZ_quiet (by rfl) (by rfl) (fun W hW => by (obtain ⟨z0, z1, z2, z3⟩ := hW; go_simp; try with_reducible rfl)) (fun K hK => ?_); go_simp; refine hK _ ?_; clear hK K))
  refine wpPlanZ_nil ?_
  go_wp2
  go_ret
  exact ⟨rfl, G0.drew, hB0.out.drew⟩
set_option maxRecDepth 100000 in
set_option maxHeartbeats 2000000 in
theorem do_1 (G : MAt w base mb sb X p vi) (d : Nat) (hd : d < 64) (i : Int) (hi : u32 i) (a b t : Int) :
    Calls Tryd.prog 26 #[.pointer (some ⟨mb, 0, none⟩), .agg #[.string ⟨#[115, 101, 116]⟩, .int .i64 d, .int .i64 a, .int .i64 b, .int .u32 i, .int .i64 t]] w fun e w' => e = .returned (.bool true) ∧ MAt w' base mb sb (setX X d i) p vi ∧ Kx w w' mb vi := by
  have O := OAt.new w ⟨#[115, 101, 116]⟩ d a b i t
  have G0 := G.opened (.cells #[.string ⟨#[115, 101, 116]⟩, .int .i64 d, .int .i64 a, .int .i64 b, .int .u32 i, .int .i64 t] 53)
  have hB0 : Hid (Kx w (w.alloc (.cells #[.string ⟨#[115, 101, 116]⟩, .int .i64 d, .int .i64 a, .int .i64 b, .int .u32 i, .int .i64 t] 53)) mb vi) := Kx.alloc _ _ _ _
  have hd' : (d : Int) < 64 := by omega
  go_enter Tryd.func26, Tryd.ntmps26
  go_upto_region 16 with fail
  have hnb : w.heap.size ≠ mb := by have := G.lt; omega
  clear G
  generalize w.alloc (.cells #[.string ⟨#[115, 101, 116]⟩, .int .i64 d, .int .i64 a, .int .i64 b, .int .u32 i, .int .i64 t] 53) = V at *
  have k1 := O.c1
  have k4 := O.c4
  have xd := G0.x d hd
  have fd := G0.fz d
  refine wp_region_phase 8 [(0, 0), (1, 0), (2, 1), (3, 0), (4, 1), (5, 0), (6, 0), (7, 0), (8, 2)] (fun W => W.cell? ⟨w.heap.size, 1, none⟩ = some (.int .i64 d) ∧ W.cell? ⟨w.heap.size, 4, none⟩ = some (.int .u32 i)) (by kernel_rfl) (by kernel_rfl) (fun _ _ _ d _ h => by cases d <;> exact h) ⟨by simpa using k1, by simpa using k4⟩ ?_
  repeat (first | (refine wpPlanZ_free (by rfl) (by rfl) (fun W => by (go_simp; try with_reducible rfl)) (fun K hK => ?_); go_simp; refine hK _ ?_; clear hK K) | (refine wpPlanZ_quiet (by rfl) (by rfl) (fun W hW => by (obtain ⟨z0, z1⟩ := hW; go_simp; try with_reducible rfl)) (fun K hK => ?_); go_simp; refine hK _ ?_; clear hK K))
  refine wpPlanZ_serial (by rfl) (by rfl) (fun K hK => ?_)
  go_simp
  refine hK _ _ (fun h => absurd h (by decide)) ?_
  clear hK K
  refine wpPlanZ_nil ?_
  go_wp2
  go_ret
  exact ⟨rfl, (G0.put d hd i hi).drew, (hB0.out.setCell d _).drew⟩
set_option maxRecDepth 100000 in
set_option maxHeartbeats 2000000 in
theorem do_23 (R : RamIs w sb bp bw bh N m wt ht) (G : MAt w base mb sb X p vi) (hp : p.length ≤ 1000) (d a : Nat) (hd : d < 64) (ha : a < 64) (b : Int) (hb : b = 1 ∨ b = 2 ∨ b = 4 ∨ b = -1 ∨ b = -2) (i : Int) (hi : u32 i) (t : Int) (sz : Int) (sgn : Bool) (hsz : Hid (sz = if b < 0 then -b else b)) (hsg : Hid (sgn = decide (b < 0))) (hc : chk (lo (X a + i)) sz = 0) :
    Calls Tryd.prog 26 #[.pointer (some ⟨mb, 0, none⟩), .agg #[.string ⟨#[108, 111, 97, 100]⟩, .int .i64 d, .int .i64 a, .int .i64 b, .int .u32 i, .int .i64 t]] w fun e w' => e = .returned (.bool true) ∧ MAt w' base mb sb (setX X d (ld (vw m (pqs p)) (lo (X a + i)) sz sgn)) p vi ∧ Kx w w' mb vi := by
  have O := OAt.new w ⟨#[108, 111, 97, 100]⟩ d a b i t
  have G0 := G.opened (.cells #[.string ⟨#[108, 111, 97, 100]⟩, .int .i64 d, .int .i64 a, .int .i64 b, .int .u32 i, .int .i64 t] 53)
  have hB0 : Hid (Kx w (w.alloc (.cells #[.string ⟨#[108, 111, 97, 100]⟩, .int .i64 d, .int .i64 a, .int .i64 b, .int .u32 i, .int .i64 t] 53)) mb vi) := Kx.alloc _ _ _ _
  have ha' : (a : Int) < 64 := by omega
  have hd' : (d : Int) < 64 := by omega
  obtain ⟨xa0, xa1⟩ := G.xb a
  obtain ⟨i0, i1⟩ := hi
  have hb1 : -4 ≤ b ∧ b ≤ 4 := by omega
  obtain ⟨hb2, hb3⟩ := hb1
  have R0 := (R.grow (World.grownBy_alloc w (.cells #[.string ⟨#[108, 111, 97, 100]⟩, .int .i64 d, .int .i64 a, .int .i64 b, .int .u32 i, .int .i64 t] 53) none)).drew
  have hcall := gload_ok R0 G0.drew (by omega) (lo (X a + i)) sz sgn (lo_bd _).1 (lo_bd _).2 hc
  have hv : Hid (u32 (ld (vw m (pqs p)) (lo (X a + i)) sz sgn)) := ld_u32 _ _ _ _ (vw_bd R.mb _ (pq_ok p))
  generalize ld (vw m (pqs p)) (lo (X a + i)) sz sgn = x at *
  clear R R0
  go_enter Tryd.func26, Tryd.ntmps26
  go_upto_region 10 with fail
  have hnb : w.heap.size ≠ mb := by have := G.lt; omega
  clear G
  generalize w.alloc (.cells #[.string ⟨#[108, 111, 97, 100]⟩, .int .i64 d, .int .i64 a, .int .i64 b, .int .u32 i, .int .i64 t] 53) = V at *
  have k2 := O.c2
  have k3 := O.c3
  have k4 := O.c4
  have xa := G0.x a ha
  refine wp_region_phase 28 [(0, 0), (1, 0), (2, 0), (3, 0), (4, 0), (5, 1), (6, 0), (7, 0), (8, 0), (9, 1), (10, 0), (11, 1), (12, 0), (13, 0), (14, 1), (15, 0), (16, 1), (17, 0), (18, 0), (19, 0), (20, 1), (21, 0), (22, 2), (23, 0), (24, 0), (25, 0), (26, 0), (27, 0)] (fun W => W.cell? ⟨w.heap.size, 2, none⟩ = some (.int .i64 a) ∧ W.cell? ⟨w.heap.size, 3, none⟩ = some (.int .i64 b) ∧ W.cell? ⟨w.heap.size, 4, none⟩ = some (.int .u32 i) ∧ W.cell? ⟨mb, a, none⟩ = some (.int .u32 (X a))) (by kernel_rfl) (by kernel_rfl) (fun _ _ _ d _ h => by cases d <;> exact h) ⟨by simpa using k2, by simpa using k3, by simpa using k4, by simpa using xa⟩ ?_
  repeat (first | (refine wpPlanZ_free (by rfl) (by rfl) (fun W => by (go_simp; try with_reducible rfl)) (fun K hK => ?_); go_simp; refine hK _ ?_; clear hK K) | (refine wpPlanZ_quiet (by rfl) (by rfl) (fun W hW => by (obtain ⟨z0, z1, z2, z3⟩ := hW; go_simp; try with_reducible rfl)) (fun K hK => ?_); go_simp; refine hK _ ?_; clear hK K))
  refine wpPlanZ_serial (by rfl) (by rfl) (fun K hK => ?_)
  go_simp
  rw [show IntKind.u32.wrap (X a + i) = lo (X a + i) from wrap_u32 _, maxw b hb, ← hsz.out, ← hsg.out]
  refine hcall.mono ?_
  rintro e w2 ⟨rfl, hb2⟩
  have G2 := G0.drew.stays hb2
  have c2 : ∀ j, w2.cell? ⟨w.heap.size, j, none⟩ = V.cell? ⟨w.heap.size, j, none⟩ := fun j => hb2.cell (p := ⟨w.heap.size, j, none⟩) (show w.heap.size < V.drew.heap.size from World.block_lt_of_cell? V _ k2)
  have y2 := (c2 2).trans k2
  have y3 := (c2 3).trans k3
  have y4 := (c2 4).trans k4
  have y1 := (c2 1).trans O.c1
  have hB2 : Hid (Kx w w2 mb vi) := hB0.out.drew.below hb2
  refine hK _ _ (fun _ => ⟨y2, y3, y4, G2.x a ha⟩) ?_
  clear hK K hcall hb2 c2 k2 k3 k4 xa O G0 hB0
  repeat (first | (refine wpPlanZ_free (by rfl) (by rfl) (fun W => by (go_simp; try with_reducible rfl)) (fun K hK => ?_); go_simp; refine hK _ ?_; clear hK K) | (refine wpPlanZ_quiet (by rfl) (by rfl) (fun W hW => by (obtain ⟨z0, z1, z2, z3⟩ := hW; go_simp; try with_reducible rfl)) (fun K hK => ?_); go_simp; refine hK _ ?_; clear hK K))
  refine wpPlanZ_nil ?_
  go_upto_region 11 with fail
  have xd := G2.x d hd
  have fd := G2.fz d
  refine wp_region_phase 7 [(0, 0), (1, 0), (2, 1), (3, 0), (4, 0), (5, 0), (6, 0), (7, 2)] (fun W => W.cell? ⟨w.heap.size, 1, none⟩ = some (.int .i64 d)) (by kernel_rfl) (by kernel_rfl) (fun _ _ _ d _ h => by cases d <;> exact h) (by simpa using y1) ?_
  repeat (first | (refine wpPlanZ_free (by rfl) (by rfl) (fun W => by (go_simp; try with_reducible rfl)) (fun K hK => ?_); go_simp; refine hK _ ?_; clear hK K) | (refine wpPlanZ_quiet (by rfl) (by rfl) (fun W hW => by (have z0 := hW; go_simp; try with_reducible rfl)) (fun K hK => ?_); go_simp; refine hK _ ?_; clear hK K))
  refine wpPlanZ_serial (by rfl) (by rfl) (fun K hK => ?_)
  go_simp
  refine hK _ _ (fun h => absurd h (by decide)) ?_
  clear hK K
  refine wpPlanZ_nil ?_
  go_wp2
  go_ret
  exact ⟨rfl, (G2.put d hd x hv.out).drew, (hB2.out.setCell d _).drew⟩
end
end Go.Proofs.YtjjlbpenagobiaaDoor
