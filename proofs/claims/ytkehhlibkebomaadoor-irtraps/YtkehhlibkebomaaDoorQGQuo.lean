/-
  A Guest's quotient; what an op that does no more than write a register writes.
-/
import Derived.Test.YtkehhlibkebomaaDoorKNum
import Derived.Test.YtkehhlibkebomaaDoorQGOp
namespace Go.Proofs.YtkehhlibkebomaaDoor
open Go.RowKit Go.Maps
open Num
set_option linter.unusedVariables false
section
variable {w : World} {base mb stb sb bp bw bh N : Nat} {X : Nat → Int} {p : List Pq} {vi : Value} {m : Nat → Int} {wt ht : Int → Bool}
set_option maxRecDepth 100000 in
set_option maxHeartbeats 4000000 in
theorem quotient_17_0 (G : GAt w base mb stb sb X p vi) (d a b : Nat) (hd : d < 64) (ha : a < 64) (hb : b < 64) (i t : Int) (h0 : X b = 0) :
    Calls Tryd.prog 45 #[.pointer (some ⟨mb, 0, none⟩), .agg #[.string ⟨#[113, 117, 111]⟩, .int .i64 d, .int .i64 a, .int .i64 b, .int .u32 i, .int .i64 t]] w fun e w' => e = .returned (.int .u32 (X d)) ∧ Below w.heap.size w w' := by
  have O := OAt.new w ⟨#[113, 117, 111]⟩ d a b i t
  have G0 := G.opened (.cells #[.string ⟨#[113, 117, 111]⟩, .int .i64 d, .int .i64 a, .int .i64 b, .int .u32 i, .int .i64 t] 53)
  have hB0 : Hid (Below w.heap.size w (w.alloc (.cells #[.string ⟨#[113, 117, 111]⟩, .int .i64 d, .int .i64 a, .int .i64 b, .int .u32 i, .int .i64 t] 53))) := (Below.refl _ _).alloc (Nat.le_refl _) _
  have hd' : (d : Int) < 64 := by omega
  have ha' : (a : Int) < 64 := by omega
  have hb' : (b : Int) < 64 := by omega
  obtain ⟨xa0, xa1⟩ := G.xb a
  obtain ⟨xb0, xb1⟩ := G.xb b
  have hcall := fun W => div_0 (X a) true W
  have H0 : Hid (X b = 0) := h0
  clear h0 xb0 xb1
  go_enter Tryd.func45, Tryd.ntmps45
  go_upto_region 1 with fail
  have hnb : w.heap.size ≠ mb := by have := G.lt; omega
  clear G
  generalize w.alloc (.cells #[.string ⟨#[113, 117, 111]⟩, .int .i64 d, .int .i64 a, .int .i64 b, .int .u32 i, .int .i64 t] 53) = V at *
  have k0 := O.c0
  have k1 := O.c1
  have k2 := O.c2
  have k3 := O.c3
  have xa := G0.x a ha
  have xb : V.cell? ⟨mb, 1 + b, none⟩ = some (.int .u32 0) := by rw [G0.x b hb, H0.out]
  have xd := G0.x d hd
  refine wp_region_phase 30 [(0, 0), (1, 0), (2, 1), (3, 0), (4, 0), (5, 0), (6, 1), (7, 0), (8, 0), (9, 1), (10, 0), (11, 0), (12, 0), (13, 1), (14, 0), (15, 1), (16, 0), (17, 0), (18, 0), (19, 1), (20, 0), (21, 0), (22, 2), (23, 0), (24, 0), (25, 0), (26, 0), (27, 0), (28, 0), (29, 0)] (fun W => W.cell? ⟨w.heap.size, 0, none⟩ = some (.string ⟨#[113, 117, 111]⟩) ∧ W.cell? ⟨w.heap.size, 2, none⟩ = some (.int .i64 a) ∧ W.cell? ⟨w.heap.size, 3, none⟩ = some (.int .i64 b) ∧ W.cell? ⟨mb, 1 + a, none⟩ = some (.int .u32 (X a)) ∧ W.cell? ⟨mb, 1 + b, none⟩ = some (.int .u32 0)) (by kernel_rfl) (by kernel_rfl) (fun _ _ _ d _ h => by cases d <;> exact h) ⟨k0, k2, k3, xa, xb⟩ ?_
  repeat (first | (refine wpPlanZ_free (by rfl) (by rfl) (fun W => by (go_simp; try with_reducible rfl)) (fun K hK => ?_); go_simp; refine hK _ ?_; clear hK K) | (refine wpPlanZ_skipG (by rfl) (by rfl) (fun K hK => ?_); go_simp; refine hK _ ?_; clear hK K) | (refine wpPlanZ_quiet (by rfl) (by rfl) (fun W hW => by (obtain ⟨z0, z1, z2, z3, z4⟩ := hW; go_simp; try with_reducible rfl)) (fun K hK => ?_); go_simp; refine hK _ ?_; clear hK K))
  refine wpPlanZ_serial (by rfl) (by rfl) (fun K hK => ?_)
  go_simp
  refine (hcall _).mono ?_
  rintro e w' ⟨rfl, rfl⟩
  refine hK _ _ (fun _ => ⟨k0, k2, k3, xa, xb⟩) ?_
  clear hK K hcall
  repeat (first | (refine wpPlanZ_free (by rfl) (by rfl) (fun W => by (go_simp; try with_reducible rfl)) (fun K hK => ?_); go_simp; refine hK _ ?_; clear hK K) | (refine wpPlanZ_skipG (by rfl) (by rfl) (fun K hK => ?_); go_simp; refine hK _ ?_; clear hK K) | (refine wpPlanZ_quiet (by rfl) (by rfl) (fun W hW => by (obtain ⟨z0, z1, z2, z3, z4⟩ := hW; go_simp; try with_reducible rfl)) (fun K hK => ?_); go_simp; refine hK _ ?_; clear hK K))
  refine wpPlanZ_nil ?_
  go_upto_region 3 with fail
  refine wp_region_phase 8 [(0, 0), (1, 0), (2, 1), (3, 0), (4, 0), (5, 0), (6, 1), (7, 0)] (fun W => W.cell? ⟨w.heap.size, 1, none⟩ = some (.int .i64 d) ∧ W.cell? ⟨mb, 1 + d, none⟩ = some (.int .u32 (X d))) (by kernel_rfl) (by kernel_rfl) (fun _ _ _ d _ h => by cases d <;> exact h) ⟨k1, xd⟩ ?_
  repeat (first | (refine wpPlanZ_free (by rfl) (by rfl) (fun W => by (go_simp; try with_reducible rfl)) (fun K hK => ?_); go_simp; refine hK _ ?_; clear hK K) | (refine wpPlanZ_quiet (by rfl) (by rfl) (fun W hW => by (obtain ⟨z0, z1⟩ := hW; go_simp; try with_reducible rfl)) (fun K hK => ?_); go_simp; refine hK _ ?_; clear hK K))
  refine wpPlanZ_nil ?_
  go_wp2
  go_ret
  exact ⟨rfl, hB0.out.drew.drew⟩
set_option maxRecDepth 100000 in
set_option maxHeartbeats 4000000 in
theorem quotient_17 (G : GAt w base mb stb sb X p vi) (d a b : Nat) (hd : d < 64) (ha : a < 64) (hb : b < 64) (i t : Int) (h0 : X b ≠ 0) :
    Calls Tryd.prog 45 #[.pointer (some ⟨mb, 0, none⟩), .agg #[.string ⟨#[113, 117, 111]⟩, .int .i64 d, .int .i64 a, .int .i64 b, .int .u32 i, .int .i64 t]] w fun e w' => e = .returned (.int .u32 (quo (X a) (X b) true)) ∧ Below w.heap.size w w' := by
  have O := OAt.new w ⟨#[113, 117, 111]⟩ d a b i t
  have G0 := G.opened (.cells #[.string ⟨#[113, 117, 111]⟩, .int .i64 d, .int .i64 a, .int .i64 b, .int .u32 i, .int .i64 t] 53)
  have hB0 : Hid (Below w.heap.size w (w.alloc (.cells #[.string ⟨#[113, 117, 111]⟩, .int .i64 d, .int .i64 a, .int .i64 b, .int .u32 i, .int .i64 t] 53))) := (Below.refl _ _).alloc (Nat.le_refl _) _
  have hd' : (d : Int) < 64 := by omega
  have ha' : (a : Int) < 64 := by omega
  have hb' : (b : Int) < 64 := by omega
  obtain ⟨xa0, xa1⟩ := G.xb a
  obtain ⟨xb0, xb1⟩ := G.xb b
  have hcall := fun W => div_any (X a) (X b) true xa0 xa1 (by omega) xb1 W
  generalize quo (X a) (X b) true = qv at *
  generalize rst (X a) (X b) true = rv at *
  go_enter Tryd.func45, Tryd.ntmps45
  go_upto_region 1 with fail
  have hnb : w.heap.size ≠ mb := by have := G.lt; omega
  clear G
  generalize w.alloc (.cells #[.string ⟨#[113, 117, 111]⟩, .int .i64 d, .int .i64 a, .int .i64 b, .int .u32 i, .int .i64 t] 53) = V at *
  have k0 := O.c0
  have k1 := O.c1
  have k2 := O.c2
  have k3 := O.c3
  have xa := G0.x a ha
  have xb := G0.x b hb
  have xd := G0.x d hd
  refine wp_region_phase 30 [(0, 0), (1, 0), (2, 1), (3, 0), (4, 0), (5, 0), (6, 1), (7, 0), (8, 0), (9, 1), (10, 0), (11, 0), (12, 0), (13, 1), (14, 0), (15, 1), (16, 0), (17, 0), (18, 0), (19, 1), (20, 0), (21, 0), (22, 2), (23, 0), (24, 0), (25, 0), (26, 0), (27, 0), (28, 0), (29, 0)] (fun W => W.cell? ⟨w.heap.size, 0, none⟩ = some (.string ⟨#[113, 117, 111]⟩) ∧ W.cell? ⟨w.heap.size, 2, none⟩ = some (.int .i64 a) ∧ W.cell? ⟨w.heap.size, 3, none⟩ = some (.int .i64 b) ∧ W.cell? ⟨mb, 1 + a, none⟩ = some (.int .u32 (X a)) ∧ W.cell? ⟨mb, 1 + b, none⟩ = some (.int .u32 (X b))) (by kernel_rfl) (by kernel_rfl) (fun _ _ _ d _ h => by cases d <;> exact h) ⟨k0, k2, k3, xa, xb⟩ ?_
  repeat (first | (refine wpPlanZ_free (by rfl) (by rfl) (fun W => by (go_simp; try with_reducible rfl)) (fun K hK => ?_); go_simp; refine hK _ ?_; clear hK K) | (refine wpPlanZ_skipG (by rfl) (by rfl) (fun K hK => ?_); go_simp; refine hK _ ?_; clear hK K) | (refine wpPlanZ_quiet (by rfl) (by rfl) (fun W hW => by (obtain ⟨z0, z1, z2, z3, z4⟩ := hW; go_simp; try with_reducible rfl)) (fun K hK => ?_); go_simp; refine hK _ ?_; clear hK K))
  refine wpPlanZ_serial (by rfl) (by rfl) (fun K hK => ?_)
  go_simp
  refine (hcall _).mono ?_
  rintro e w' ⟨rfl, rfl⟩
  refine hK _ _ (fun _ => ⟨k0, k2, k3, xa, xb⟩) ?_
  clear hK K hcall
  repeat (first | (refine wpPlanZ_free (by rfl) (by rfl) (fun W => by (go_simp; try with_reducible rfl)) (fun K hK => ?_); go_simp; refine hK _ ?_; clear hK K) | (refine wpPlanZ_skipG (by rfl) (by rfl) (fun K hK => ?_); go_simp; refine hK _ ?_; clear hK K) | (refine wpPlanZ_quiet (by rfl) (by rfl) (fun W hW => by (obtain ⟨z0, z1, z2, z3, z4⟩ := hW; go_simp; try with_reducible rfl)) (fun K hK => ?_); go_simp; refine hK _ ?_; clear hK K))
  refine wpPlanZ_nil ?_
  go_wp2
  go_ret
  exact ⟨rfl, by first | exact hB0.out.drew | exact hB0.out.drew.drew⟩
set_option maxRecDepth 100000 in
set_option maxHeartbeats 4000000 in
theorem quotient_18_0 (G : GAt w base mb stb sb X p vi) (d a b : Nat) (hd : d < 64) (ha : a < 64) (hb : b < 64) (i t : Int) (h0 : X b = 0) :
    Calls Tryd.prog 45 #[.pointer (some ⟨mb, 0, none⟩), .agg #[.string ⟨#[114, 101, 109]⟩, .int .i64 d, .int .i64 a, .int .i64 b, .int .u32 i, .int .i64 t]] w fun e w' => e = .returned (.int .u32 (X d)) ∧ Below w.heap.size w w' := by
  have O := OAt.new w ⟨#[114, 101, 109]⟩ d a b i t
  have G0 := G.opened (.cells #[.string ⟨#[114, 101, 109]⟩, .int .i64 d, .int .i64 a, .int .i64 b, .int .u32 i, .int .i64 t] 53)
  have hB0 : Hid (Below w.heap.size w (w.alloc (.cells #[.string ⟨#[114, 101, 109]⟩, .int .i64 d, .int .i64 a, .int .i64 b, .int .u32 i, .int .i64 t] 53))) := (Below.refl _ _).alloc (Nat.le_refl _) _
  have hd' : (d : Int) < 64 := by omega
  have ha' : (a : Int) < 64 := by omega
  have hb' : (b : Int) < 64 := by omega
  obtain ⟨xa0, xa1⟩ := G.xb a
  obtain ⟨xb0, xb1⟩ := G.xb b
  have hcall := fun W => div_0 (X a) true W
  have H0 : Hid (X b = 0) := h0
  clear h0 xb0 xb1
  go_enter Tryd.func45, Tryd.ntmps45
  go_upto_region 1 with fail
  have hnb : w.heap.size ≠ mb := by have := G.lt; omega
  clear G
  generalize w.alloc (.cells #[.string ⟨#[114, 101, 109]⟩, .int .i64 d, .int .i64 a, .int .i64 b, .int .u32 i, .int .i64 t] 53) = V at *
  have k0 := O.c0
  have k1 := O.c1
  have k2 := O.c2
  have k3 := O.c3
  have xa := G0.x a ha
  have xb : V.cell? ⟨mb, 1 + b, none⟩ = some (.int .u32 0) := by rw [G0.x b hb, H0.out]
  have xd := G0.x d hd
  refine wp_region_phase 30 [(0, 0), (1, 0), (2, 1), (3, 0), (4, 0), (5, 0), (6, 1), (7, 0), (8, 0), (9, 1), (10, 0), (11, 0), (12, 0), (13, 1), (14, 0), (15, 1), (16, 0), (17, 0), (18, 0), (19, 1), (20, 0), (21, 0), (22, 2), (23, 0), (24, 0), (25, 0), (26, 0), (27, 0), (28, 0), (29, 0)] (fun W => W.cell? ⟨w.heap.size, 0, none⟩ = some (.string ⟨#[114, 101, 109]⟩) ∧ W.cell? ⟨w.heap.size, 2, none⟩ = some (.int .i64 a) ∧ W.cell? ⟨w.heap.size, 3, none⟩ = some (.int .i64 b) ∧ W.cell? ⟨mb, 1 + a, none⟩ = some (.int .u32 (X a)) ∧ W.cell? ⟨mb, 1 + b, none⟩ = some (.int .u32 0)) (by kernel_rfl) (by kernel_rfl) (fun _ _ _ d _ h => by cases d <;> exact h) ⟨k0, k2, k3, xa, xb⟩ ?_
  repeat (first | (refine wpPlanZ_free (by rfl) (by rfl) (fun W => by (go_simp; try with_reducible rfl)) (fun K hK => ?_); go_simp; refine hK _ ?_; clear hK K) | (refine wpPlanZ_skipG (by rfl) (by rfl) (fun K hK => ?_); go_simp; refine hK _ ?_; clear hK K) | (refine wpPlanZ_quiet (by rfl) (by rfl) (fun W hW => by (obtain ⟨z0, z1, z2, z3, z4⟩ := hW; go_simp; try with_reducible rfl)) (fun K hK => ?_); go_simp; refine hK _ ?_; clear hK K))
  refine wpPlanZ_serial (by rfl) (by rfl) (fun K hK => ?_)
  go_simp
  refine (hcall _).mono ?_
  rintro e w' ⟨rfl, rfl⟩
  refine hK _ _ (fun _ => ⟨k0, k2, k3, xa, xb⟩) ?_
  clear hK K hcall
  repeat (first | (refine wpPlanZ_free (by rfl) (by rfl) (fun W => by (go_simp; try with_reducible rfl)) (fun K hK => ?_); go_simp; refine hK _ ?_; clear hK K) | (refine wpPlanZ_skipG (by rfl) (by rfl) (fun K hK => ?_); go_simp; refine hK _ ?_; clear hK K) | (refine wpPlanZ_quiet (by rfl) (by rfl) (fun W hW => by (obtain ⟨z0, z1, z2, z3, z4⟩ := hW; go_simp; try with_reducible rfl)) (fun K hK => ?_); go_simp; refine hK _ ?_; clear hK K))
  refine wpPlanZ_nil ?_
  go_upto_region 3 with fail
  refine wp_region_phase 8 [(0, 0), (1, 0), (2, 1), (3, 0), (4, 0), (5, 0), (6, 1), (7, 0)] (fun W => W.cell? ⟨w.heap.size, 1, none⟩ = some (.int .i64 d) ∧ W.cell? ⟨mb, 1 + d, none⟩ = some (.int .u32 (X d))) (by kernel_rfl) (by kernel_rfl) (fun _ _ _ d _ h => by cases d <;> exact h) ⟨k1, xd⟩ ?_
  repeat (first | (refine wpPlanZ_free (by rfl) (by rfl) (fun W => by (go_simp; try with_reducible rfl)) (fun K hK => ?_); go_simp; refine hK _ ?_; clear hK K) | (refine wpPlanZ_quiet (by rfl) (by rfl) (fun W hW => by (obtain ⟨z0, z1⟩ := hW; go_simp; try with_reducible rfl)) (fun K hK => ?_); go_simp; refine hK _ ?_; clear hK K))
  refine wpPlanZ_nil ?_
  go_wp2
  go_ret
  exact ⟨rfl, hB0.out.drew.drew⟩
set_option maxRecDepth 100000 in
set_option maxHeartbeats 4000000 in
theorem quotient_18 (G : GAt w base mb stb sb X p vi) (d a b : Nat) (hd : d < 64) (ha : a < 64) (hb : b < 64) (i t : Int) (h0 : X b ≠ 0) :
    Calls Tryd.prog 45 #[.pointer (some ⟨mb, 0, none⟩), .agg #[.string ⟨#[114, 101, 109]⟩, .int .i64 d, .int .i64 a, .int .i64 b, .int .u32 i, .int .i64 t]] w fun e w' => e = .returned (.int .u32 (rst (X a) (X b) true)) ∧ Below w.heap.size w w' := by
  have O := OAt.new w ⟨#[114, 101, 109]⟩ d a b i t
  have G0 := G.opened (.cells #[.string ⟨#[114, 101, 109]⟩, .int .i64 d, .int .i64 a, .int .i64 b, .int .u32 i, .int .i64 t] 53)
  have hB0 : Hid (Below w.heap.size w (w.alloc (.cells #[.string ⟨#[114, 101, 109]⟩, .int .i64 d, .int .i64 a, .int .i64 b, .int .u32 i, .int .i64 t] 53))) := (Below.refl _ _).alloc (Nat.le_refl _) _
  have hd' : (d : Int) < 64 := by omega
  have ha' : (a : Int) < 64 := by omega
  have hb' : (b : Int) < 64 := by omega
  obtain ⟨xa0, xa1⟩ := G.xb a
  obtain ⟨xb0, xb1⟩ := G.xb b
  have hcall := fun W => div_any (X a) (X b) true xa0 xa1 (by omega) xb1 W
  generalize quo (X a) (X b) true = qv at *
  generalize rst (X a) (X b) true = rv at *
  go_enter Tryd.func45, Tryd.ntmps45
  go_upto_region 1 with fail
  have hnb : w.heap.size ≠ mb := by have := G.lt; omega
  clear G
  generalize w.alloc (.cells #[.string ⟨#[114, 101, 109]⟩, .int .i64 d, .int .i64 a, .int .i64 b, .int .u32 i, .int .i64 t] 53) = V at *
  have k0 := O.c0
  have k1 := O.c1
  have k2 := O.c2
  have k3 := O.c3
  have xa := G0.x a ha
  have xb := G0.x b hb
  have xd := G0.x d hd
  refine wp_region_phase 30 [(0, 0), (1, 0), (2, 1), (3, 0), (4, 0), (5, 0), (6, 1), (7, 0), (8, 0), (9, 1), (10, 0), (11, 0), (12, 0), (13, 1), (14, 0), (15, 1), (16, 0), (17, 0), (18, 0), (19, 1), (20, 0), (21, 0), (22, 2), (23, 0), (24, 0), (25, 0), (26, 0), (27, 0), (28, 0), (29, 0)] (fun W => W.cell? ⟨w.heap.size, 0, none⟩ = some (.string ⟨#[114, 101, 109]⟩) ∧ W.cell? ⟨w.heap.size, 2, none⟩ = some (.int .i64 a) ∧ W.cell? ⟨w.heap.size, 3, none⟩ = some (.int .i64 b) ∧ W.cell? ⟨mb, 1 + a, none⟩ = some (.int .u32 (X a)) ∧ W.cell? ⟨mb, 1 + b, none⟩ = some (.int .u32 (X b))) (by kernel_rfl) (by kernel_rfl) (fun _ _ _ d _ h => by cases d <;> exact h) ⟨k0, k2, k3, xa, xb⟩ ?_
  repeat (first | (refine wpPlanZ_free (by rfl) (by rfl) (fun W => by (go_simp; try with_reducible rfl)) (fun K hK => ?_); go_simp; refine hK _ ?_; clear hK K) | (refine wpPlanZ_skipG (by rfl) (by rfl) (fun K hK => ?_); go_simp; refine hK _ ?_; clear hK K) | (refine wpPlanZ_quiet (by rfl) (by rfl) (fun W hW => by (obtain ⟨z0, z1, z2, z3, z4⟩ := hW; go_simp; try with_reducible rfl)) (fun K hK => ?_); go_simp; refine hK _ ?_; clear hK K))
  refine wpPlanZ_serial (by rfl) (by rfl) (fun K hK => ?_)
  go_simp
  refine (hcall _).mono ?_
  rintro e w' ⟨rfl, rfl⟩
  refine hK _ _ (fun _ => ⟨k0, k2, k3, xa, xb⟩) ?_
  clear hK K hcall
  repeat (first | (refine wpPlanZ_free (by rfl) (by rfl) (fun W => by (go_simp; try with_reducible rfl)) (fun K hK => ?_); go_simp; refine hK _ ?_; clear hK K) | (refine wpPlanZ_skipG (by rfl) (by rfl) (fun K hK => ?_); go_simp; refine hK _ ?_; clear hK K) | (refine wpPlanZ_quiet (by rfl) (by rfl) (fun W hW => by (obtain ⟨z0, z1, z2, z3, z4⟩ := hW; go_simp; try with_reducible rfl)) (fun K hK => ?_); go_simp; refine hK _ ?_; clear hK K))
  refine wpPlanZ_nil ?_
  go_wp2
  go_ret
  exact ⟨rfl, by first | exact hB0.out.drew | exact hB0.out.drew.drew⟩
set_option maxRecDepth 100000 in
set_option maxHeartbeats 4000000 in
theorem quotient_19_0 (G : GAt w base mb stb sb X p vi) (d a b : Nat) (hd : d < 64) (ha : a < 64) (hb : b < 64) (i t : Int) (h0 : X b = 0) :
    Calls Tryd.prog 45 #[.pointer (some ⟨mb, 0, none⟩), .agg #[.string ⟨#[113, 117, 111, 117]⟩, .int .i64 d, .int .i64 a, .int .i64 b, .int .u32 i, .int .i64 t]] w fun e w' => e = .returned (.int .u32 (X d)) ∧ Below w.heap.size w w' := by
  have O := OAt.new w ⟨#[113, 117, 111, 117]⟩ d a b i t
  have G0 := G.opened (.cells #[.string ⟨#[113, 117, 111, 117]⟩, .int .i64 d, .int .i64 a, .int .i64 b, .int .u32 i, .int .i64 t] 53)
  have hB0 : Hid (Below w.heap.size w (w.alloc (.cells #[.string ⟨#[113, 117, 111, 117]⟩, .int .i64 d, .int .i64 a, .int .i64 b, .int .u32 i, .int .i64 t] 53))) := (Below.refl _ _).alloc (Nat.le_refl _) _
  have hd' : (d : Int) < 64 := by omega
  have ha' : (a : Int) < 64 := by omega
  have hb' : (b : Int) < 64 := by omega
  obtain ⟨xa0, xa1⟩ := G.xb a
  obtain ⟨xb0, xb1⟩ := G.xb b
  have hcall := fun W => div_0 (X a) false W
  have H0 : Hid (X b = 0) := h0
  clear h0 xb0 xb1
  go_enter Tryd.func45, Tryd.ntmps45
  go_upto_region 1 with fail
  have hnb : w.heap.size ≠ mb := by have := G.lt; omega
  clear G
  generalize w.alloc (.cells #[.string ⟨#[113, 117, 111, 117]⟩, .int .i64 d, .int .i64 a, .int .i64 b, .int .u32 i, .int .i64 t] 53) = V at *
  have k0 := O.c0
  have k1 := O.c1
  have k2 := O.c2
  have k3 := O.c3
  have xa := G0.x a ha
  have xb : V.cell? ⟨mb, 1 + b, none⟩ = some (.int .u32 0) := by rw [G0.x b hb, H0.out]
  have xd := G0.x d hd
  refine wp_region_phase 30 [(0, 0), (1, 0), (2, 1), (3, 0), (4, 0), (5, 0), (6, 1), (7, 0), (8, 0), (9, 1), (10, 0), (11, 0), (12, 0), (13, 1), (14, 0), (15, 1), (16, 0), (17, 0), (18, 0), (19, 1), (20, 0), (21, 0), (22, 2), (23, 0), (24, 0), (25, 0), (26, 0), (27, 0), (28, 0), (29, 0)] (fun W => W.cell? ⟨w.heap.size, 0, none⟩ = some (.string ⟨#[113, 117, 111, 117]⟩) ∧ W.cell? ⟨w.heap.size, 2, none⟩ = some (.int .i64 a) ∧ W.cell? ⟨w.heap.size, 3, none⟩ = some (.int .i64 b) ∧ W.cell? ⟨mb, 1 + a, none⟩ = some (.int .u32 (X a)) ∧ W.cell? ⟨mb, 1 + b, none⟩ = some (.int .u32 0)) (by kernel_rfl) (by kernel_rfl) (fun _ _ _ d _ h => by cases d <;> exact h) ⟨k0, k2, k3, xa, xb⟩ ?_
  repeat (first | (refine wpPlanZ_free (by rfl) (by rfl) (fun W => by (go_simp; try with_reducible rfl)) (fun K hK => ?_); go_simp; refine hK _ ?_; clear hK K) | (refine wpPlanZ_skipG (by rfl) (by rfl) (fun K hK => ?_); go_simp; refine hK _ ?_; clear hK K) | (refine wpPlanZ_quiet (by rfl) (by rfl) (fun W hW => by (obtain ⟨z0, z1, z2, z3, z4⟩ := hW; go_simp; try with_reducible rfl)) (fun K hK => ?_); go_simp; refine hK _ ?_; clear hK K))
  refine wpPlanZ_serial (by rfl) (by rfl) (fun K hK => ?_)
  go_simp
  refine (hcall _).mono ?_
  rintro e w' ⟨rfl, rfl⟩
  refine hK _ _ (fun _ => ⟨k0, k2, k3, xa, xb⟩) ?_
  clear hK K hcall
  repeat (first | (refine wpPlanZ_free (by rfl) (by rfl) (fun W => by (go_simp; try with_reducible rfl)) (fun K hK => ?_); go_simp; refine hK _ ?_; clear hK K) | (refine wpPlanZ_skipG (by rfl) (by rfl) (fun K hK => ?_); go_simp; refine hK _ ?_; clear hK K) | (refine wpPlanZ_quiet (by rfl) (by rfl) (fun W hW => by (obtain ⟨z0, z1, z2, z3, z4⟩ := hW; go_simp; try with_reducible rfl)) (fun K hK => ?_); go_simp; refine hK _ ?_; clear hK K))
  refine wpPlanZ_nil ?_
  go_upto_region 3 with fail
  refine wp_region_phase 8 [(0, 0), (1, 0), (2, 1), (3, 0), (4, 0), (5, 0), (6, 1), (7, 0)] (fun W => W.cell? ⟨w.heap.size, 1, none⟩ = some (.int .i64 d) ∧ W.cell? ⟨mb, 1 + d, none⟩ = some (.int .u32 (X d))) (by kernel_rfl) (by kernel_rfl) (fun _ _ _ d _ h => by cases d <;> exact h) ⟨k1, xd⟩ ?_
  repeat (first | (refine wpPlanZ_free (by rfl) (by rfl) (fun W => by (go_simp; try with_reducible rfl)) (fun K hK => ?_); go_simp; refine hK _ ?_; clear hK K) | (refine wpPlanZ_quiet (by rfl) (by rfl) (fun W hW => by (obtain ⟨z0, z1⟩ := hW; go_simp; try with_reducible rfl)) (fun K hK => ?_); go_simp; refine hK _ ?_; clear hK K))
  refine wpPlanZ_nil ?_
  go_wp2
  go_ret
  exact ⟨rfl, hB0.out.drew.drew⟩
set_option maxRecDepth 100000 in
set_option maxHeartbeats 4000000 in
theorem quotient_19 (G : GAt w base mb stb sb X p vi) (d a b : Nat) (hd : d < 64) (ha : a < 64) (hb : b < 64) (i t : Int) (h0 : X b ≠ 0) :
    Calls Tryd.prog 45 #[.pointer (some ⟨mb, 0, none⟩), .agg #[.string ⟨#[113, 117, 111, 117]⟩, .int .i64 d, .int .i64 a, .int .i64 b, .int .u32 i, .int .i64 t]] w fun e w' => e = .returned (.int .u32 (quo (X a) (X b) false)) ∧ Below w.heap.size w w' := by
  have O := OAt.new w ⟨#[113, 117, 111, 117]⟩ d a b i t
  have G0 := G.opened (.cells #[.string ⟨#[113, 117, 111, 117]⟩, .int .i64 d, .int .i64 a, .int .i64 b, .int .u32 i, .int .i64 t] 53)
  have hB0 : Hid (Below w.heap.size w (w.alloc (.cells #[.string ⟨#[113, 117, 111, 117]⟩, .int .i64 d, .int .i64 a, .int .i64 b, .int .u32 i, .int .i64 t] 53))) := (Below.refl _ _).alloc (Nat.le_refl _) _
  have hd' : (d : Int) < 64 := by omega
  have ha' : (a : Int) < 64 := by omega
  have hb' : (b : Int) < 64 := by omega
  obtain ⟨xa0, xa1⟩ := G.xb a
  obtain ⟨xb0, xb1⟩ := G.xb b
  have hcall := fun W => div_any (X a) (X b) false xa0 xa1 (by omega) xb1 W
  generalize quo (X a) (X b) false = qv at *
  generalize rst (X a) (X b) false = rv at *
  go_enter Tryd.func45, Tryd.ntmps45
  go_upto_region 1 with fail
  have hnb : w.heap.size ≠ mb := by have := G.lt; omega
  clear G
  generalize w.alloc (.cells #[.string ⟨#[113, 117, 111, 117]⟩, .int .i64 d, .int .i64 a, .int .i64 b, .int .u32 i, .int .i64 t] 53) = V at *
  have k0 := O.c0
  have k1 := O.c1
  have k2 := O.c2
  have k3 := O.c3
  have xa := G0.x a ha
  have xb := G0.x b hb
  have xd := G0.x d hd
  refine wp_region_phase 30 [(0, 0), (1, 0), (2, 1), (3, 0), (4, 0), (5, 0), (6, 1), (7, 0), (8, 0), (9, 1), (10, 0), (11, 0), (12, 0), (13, 1), (14, 0), (15, 1), (16, 0), (17, 0), (18, 0), (19, 1), (20, 0), (21, 0), (22, 2), (23, 0), (24, 0), (25, 0), (26, 0), (27, 0), (28, 0), (29, 0)] (fun W => W.cell? ⟨w.heap.size, 0, none⟩ = some (.string ⟨#[113, 117, 111, 117]⟩) ∧ W.cell? ⟨w.heap.size, 2, none⟩ = some (.int .i64 a) ∧ W.cell? ⟨w.heap.size, 3, none⟩ = some (.int .i64 b) ∧ W.cell? ⟨mb, 1 + a, none⟩ = some (.int .u32 (X a)) ∧ W.cell? ⟨mb, 1 + b, none⟩ = some (.int .u32 (X b))) (by kernel_rfl) (by kernel_rfl) (fun _ _ _ d _ h => by cases d <;> exact h) ⟨k0, k2, k3, xa, xb⟩ ?_
  repeat (first | (refine wpPlanZ_free (by rfl) (by rfl) (fun W => by (go_simp; try with_reducible rfl)) (fun K hK => ?_); go_simp; refine hK _ ?_; clear hK K) | (refine wpPlanZ_skipG (by rfl) (by rfl) (fun K hK => ?_); go_simp; refine hK _ ?_; clear hK K) | (refine wpPlanZ_quiet (by rfl) (by rfl) (fun W hW => by (obtain ⟨z0, z1, z2, z3, z4⟩ := hW; go_simp; try with_reducible rfl)) (fun K hK => ?_); go_simp; refine hK _ ?_; clear hK K))
  refine wpPlanZ_serial (by rfl) (by rfl) (fun K hK => ?_)
  go_simp
  refine (hcall _).mono ?_
  rintro e w' ⟨rfl, rfl⟩
  refine hK _ _ (fun _ => ⟨k0, k2, k3, xa, xb⟩) ?_
  clear hK K hcall
  repeat (first | (refine wpPlanZ_free (by rfl) (by rfl) (fun W => by (go_simp; try with_reducible rfl)) (fun K hK => ?_); go_simp; refine hK _ ?_; clear hK K) | (refine wpPlanZ_skipG (by rfl) (by rfl) (fun K hK => ?_); go_simp; refine hK _ ?_; clear hK K) | (refine wpPlanZ_quiet (by rfl) (by rfl) (fun W hW => by (obtain ⟨z0, z1, z2, z3, z4⟩ := hW; go_simp; try with_reducible rfl)) (fun K hK => ?_); go_simp; refine hK _ ?_; clear hK K))
  refine wpPlanZ_nil ?_
  go_wp2
  go_ret
  exact ⟨rfl, by first | exact hB0.out.drew | exact hB0.out.drew.drew⟩
set_option maxRecDepth 100000 in
set_option maxHeartbeats 4000000 in
theorem quotient_20_0 (G : GAt w base mb stb sb X p vi) (d a b : Nat) (hd : d < 64) (ha : a < 64) (hb : b < 64) (i t : Int) (h0 : X b = 0) :
    Calls Tryd.prog 45 #[.pointer (some ⟨mb, 0, none⟩), .agg #[.string ⟨#[114, 101, 109, 117]⟩, .int .i64 d, .int .i64 a, .int .i64 b, .int .u32 i, .int .i64 t]] w fun e w' => e = .returned (.int .u32 (X d)) ∧ Below w.heap.size w w' := by
  have O := OAt.new w ⟨#[114, 101, 109, 117]⟩ d a b i t
  have G0 := G.opened (.cells #[.string ⟨#[114, 101, 109, 117]⟩, .int .i64 d, .int .i64 a, .int .i64 b, .int .u32 i, .int .i64 t] 53)
  have hB0 : Hid (Below w.heap.size w (w.alloc (.cells #[.string ⟨#[114, 101, 109, 117]⟩, .int .i64 d, .int .i64 a, .int .i64 b, .int .u32 i, .int .i64 t] 53))) := (Below.refl _ _).alloc (Nat.le_refl _) _
  have hd' : (d : Int) < 64 := by omega
  have ha' : (a : Int) < 64 := by omega
  have hb' : (b : Int) < 64 := by omega
  obtain ⟨xa0, xa1⟩ := G.xb a
  obtain ⟨xb0, xb1⟩ := G.xb b
  have hcall := fun W => div_0 (X a) false W
  have H0 : Hid (X b = 0) := h0
  clear h0 xb0 xb1
  go_enter Tryd.func45, Tryd.ntmps45
  go_upto_region 1 with fail
  have hnb : w.heap.size ≠ mb := by have := G.lt; omega
  clear G
  generalize w.alloc (.cells #[.string ⟨#[114, 101, 109, 117]⟩, .int .i64 d, .int .i64 a, .int .i64 b, .int .u32 i, .int .i64 t] 53) = V at *
  have k0 := O.c0
  have k1 := O.c1
  have k2 := O.c2
  have k3 := O.c3
  have xa := G0.x a ha
  have xb : V.cell? ⟨mb, 1 + b, none⟩ = some (.int .u32 0) := by rw [G0.x b hb, H0.out]
  have xd := G0.x d hd
  refine wp_region_phase 30 [(0, 0), (1, 0), (2, 1), (3, 0), (4, 0), (5, 0), (6, 1), (7, 0), (8, 0), (9, 1), (10, 0), (11, 0), (12, 0), (13, 1), (14, 0), (15, 1), (16, 0), (17, 0), (18, 0), (19, 1), (20, 0), (21, 0), (22, 2), (23, 0), (24, 0), (25, 0), (26, 0), (27, 0), (28, 0), (29, 0)] (fun W => W.cell? ⟨w.heap.size, 0, none⟩ = some (.string ⟨#[114, 101, 109, 117]⟩) ∧ W.cell? ⟨w.heap.size, 2, none⟩ = some (.int .i64 a) ∧ W.cell? ⟨w.heap.size, 3, none⟩ = some (.int .i64 b) ∧ W.cell? ⟨mb, 1 + a, none⟩ = some (.int .u32 (X a)) ∧ W.cell? ⟨mb, 1 + b, none⟩ = some (.int .u32 0)) (by kernel_rfl) (by kernel_rfl) (fun _ _ _ d _ h => by cases d <;> exact h) ⟨k0, k2, k3, xa, xb⟩ ?_
  repeat (first | (refine wpPlanZ_free (by rfl) (by rfl) (fun W => by (go_simp; try with_reducible rfl)) (fun K hK => ?_); go_simp; refine hK _ ?_; clear hK K) | (refine wpPlanZ_skipG (by rfl) (by rfl) (fun K hK => ?_); go_simp; refine hK _ ?_; clear hK K) | (refine wpPlanZ_quiet (by rfl) (by rfl) (fun W hW => by (obtain ⟨z0, z1, z2, z3, z4⟩ := hW; go_simp; try with_reducible rfl)) (fun K hK => ?_); go_simp; refine hK _ ?_; clear hK K))
  refine wpPlanZ_serial (by rfl) (by rfl) (fun K hK => ?_)
  go_simp
  refine (hcall _).mono ?_
  rintro e w' ⟨rfl, rfl⟩
  refine hK _ _ (fun _ => ⟨k0, k2, k3, xa, xb⟩) ?_
  clear hK K hcall
  repeat (first | (refine wpPlanZ_free (by rfl) (by rfl) (fun W => by (go_simp; try with_reducible rfl)) (fun K hK => ?_); go_simp; refine hK _ ?_; clear hK K) | (refine wpPlanZ_skipG (by rfl) (by rfl) (fun K hK => ?_); go_simp; refine hK _ ?_; clear hK K) | (refine wpPlanZ_quiet (by rfl) (by rfl) (fun W hW => by (obtain ⟨z0, z1, z2, z3, z4⟩ := hW; go_simp; try with_reducible rfl)) (fun K hK => ?_); go_simp; refine hK _ ?_; clear hK K))
  refine wpPlanZ_nil ?_
  go_upto_region 3 with fail
  refine wp_region_phase 8 [(0, 0), (1, 0), (2, 1), (3, 0), (4, 0), (5, 0), (6, 1), (7, 0)] (fun W => W.cell? ⟨w.heap.size, 1, none⟩ = some (.int .i64 d) ∧ W.cell? ⟨mb, 1 + d, none⟩ = some (.int .u32 (X d))) (by kernel_rfl) (by kernel_rfl) (fun _ _ _ d _ h => by cases d <;> exact h) ⟨k1, xd⟩ ?_
  repeat (first | (refine wpPlanZ_free (by rfl) (by rfl) (fun W => by (go_simp; try with_reducible rfl)) (fun K hK => ?_); go_simp; refine hK _ ?_; clear hK K) | (refine wpPlanZ_quiet (by rfl) (by rfl) (fun W hW => by (obtain ⟨z0, z1⟩ := hW; go_simp; try with_reducible rfl)) (fun K hK => ?_); go_simp; refine hK _ ?_; clear hK K))
  refine wpPlanZ_nil ?_
  go_wp2
  go_ret
  exact ⟨rfl, hB0.out.drew.drew⟩
set_option maxRecDepth 100000 in
set_option maxHeartbeats 4000000 in
theorem quotient_20 (G : GAt w base mb stb sb X p vi) (d a b : Nat) (hd : d < 64) (ha : a < 64) (hb : b < 64) (i t : Int) (h0 : X b ≠ 0) :
    Calls Tryd.prog 45 #[.pointer (some ⟨mb, 0, none⟩), .agg #[.string ⟨#[114, 101, 109, 117]⟩, .int .i64 d, .int .i64 a, .int .i64 b, .int .u32 i, .int .i64 t]] w fun e w' => e = .returned (.int .u32 (rst (X a) (X b) false)) ∧ Below w.heap.size w w' := by
  have O := OAt.new w ⟨#[114, 101, 109, 117]⟩ d a b i t
  have G0 := G.opened (.cells #[.string ⟨#[114, 101, 109, 117]⟩, .int .i64 d, .int .i64 a, .int .i64 b, .int .u32 i, .int .i64 t] 53)
  have hB0 : Hid (Below w.heap.size w (w.alloc (.cells #[.string ⟨#[114, 101, 109, 117]⟩, .int .i64 d, .int .i64 a, .int .i64 b, .int .u32 i, .int .i64 t] 53))) := (Below.refl _ _).alloc (Nat.le_refl _) _
  have hd' : (d : Int) < 64 := by omega
  have ha' : (a : Int) < 64 := by omega
  have hb' : (b : Int) < 64 := by omega
  obtain ⟨xa0, xa1⟩ := G.xb a
  obtain ⟨xb0, xb1⟩ := G.xb b
  have hcall := fun W => div_any (X a) (X b) false xa0 xa1 (by omega) xb1 W
  generalize quo (X a) (X b) false = qv at *
  generalize rst (X a) (X b) false = rv at *
  go_enter Tryd.func45, Tryd.ntmps45
  go_upto_region 1 with fail
  have hnb : w.heap.size ≠ mb := by have := G.lt; omega
  clear G
  generalize w.alloc (.cells #[.string ⟨#[114, 101, 109, 117]⟩, .int .i64 d, .int .i64 a, .int .i64 b, .int .u32 i, .int .i64 t] 53) = V at *
  have k0 := O.c0
  have k1 := O.c1
  have k2 := O.c2
  have k3 := O.c3
  have xa := G0.x a ha
  have xb := G0.x b hb
  have xd := G0.x d hd
  refine wp_region_phase 30 [(0, 0), (1, 0), (2, 1), (3, 0), (4, 0), (5, 0), (6, 1), (7, 0), (8, 0), (9, 1), (10, 0), (11, 0), (12, 0), (13, 1), (14, 0), (15, 1), (16, 0), (17, 0), (18, 0), (19, 1), (20, 0), (21, 0), (22, 2), (23, 0), (24, 0), (25, 0), (26, 0), (27, 0), (28, 0), (29, 0)] (fun W => W.cell? ⟨w.heap.size, 0, none⟩ = some (.string ⟨#[114, 101, 109, 117]⟩) ∧ W.cell? ⟨w.heap.size, 2, none⟩ = some (.int .i64 a) ∧ W.cell? ⟨w.heap.size, 3, none⟩ = some (.int .i64 b) ∧ W.cell? ⟨mb, 1 + a, none⟩ = some (.int .u32 (X a)) ∧ W.cell? ⟨mb, 1 + b, none⟩ = some (.int .u32 (X b))) (by kernel_rfl) (by kernel_rfl) (fun _ _ _ d _ h => by cases d <;> exact h) ⟨k0, k2, k3, xa, xb⟩ ?_
  repeat (first | (refine wpPlanZ_free (by rfl) (by rfl) (fun W => by (go_simp; try with_reducible rfl)) (fun K hK => ?_); go_simp; refine hK _ ?_; clear hK K) | (refine wpPlanZ_skipG (by rfl) (by rfl) (fun K hK => ?_); go_simp; refine hK _ ?_; clear hK K) | (refine wpPlanZ_quiet (by rfl) (by rfl) (fun W hW => by (obtain ⟨z0, z1, z2, z3, z4⟩ := hW; go_simp; try with_reducible rfl)) (fun K hK => ?_); go_simp; refine hK _ ?_; clear hK K))
  refine wpPlanZ_serial (by rfl) (by rfl) (fun K hK => ?_)
  go_simp
  refine (hcall _).mono ?_
  rintro e w' ⟨rfl, rfl⟩
  refine hK _ _ (fun _ => ⟨k0, k2, k3, xa, xb⟩) ?_
  clear hK K hcall
  repeat (first | (refine wpPlanZ_free (by rfl) (by rfl) (fun W => by (go_simp; try with_reducible rfl)) (fun K hK => ?_); go_simp; refine hK _ ?_; clear hK K) | (refine wpPlanZ_skipG (by rfl) (by rfl) (fun K hK => ?_); go_simp; refine hK _ ?_; clear hK K) | (refine wpPlanZ_quiet (by rfl) (by rfl) (fun W hW => by (obtain ⟨z0, z1, z2, z3, z4⟩ := hW; go_simp; try with_reducible rfl)) (fun K hK => ?_); go_simp; refine hK _ ?_; clear hK K))
  refine wpPlanZ_nil ?_
  go_wp2
  go_ret
  exact ⟨rfl, by first | exact hB0.out.drew | exact hB0.out.drew.drew⟩
set_option maxRecDepth 100000 in
set_option maxHeartbeats 4000000 in
theorem gresult_1 (G : GAt w base mb stb sb X p vi) (d a b : Nat) (hd : d < 64) (ha : a < 64) (hb : b < 64) (i t : Int) :
    Calls Tryd.prog 31 #[.pointer (some ⟨mb, 0, none⟩), .agg #[.string ⟨#[115, 101, 116]⟩, .int .i64 d, .int .i64 a, .int .i64 b, .int .u32 i, .int .i64 t]] w fun e w' => e = .returned (.int .u32 (valV 1 (X a) (X b) (X d) i)) ∧ Below w.heap.size w w' := by
  have O := OAt.new w ⟨#[115, 101, 116]⟩ d a b i t
  have G0 := G.opened (.cells #[.string ⟨#[115, 101, 116]⟩, .int .i64 d, .int .i64 a, .int .i64 b, .int .u32 i, .int .i64 t] 53)
  have hB0 : Hid (Below w.heap.size w (w.alloc (.cells #[.string ⟨#[115, 101, 116]⟩, .int .i64 d, .int .i64 a, .int .i64 b, .int .u32 i, .int .i64 t] 53))) := (Below.refl _ _).alloc (Nat.le_refl _) _
  have hd' : (d : Int) < 64 := by omega
  have ha' : (a : Int) < 64 := by omega
  have hb' : (b : Int) < 64 := by omega
  have hmw := G.lt
  show Calls _ _ _ _ fun e w' => e = .returned (.int .u32 i) ∧ _
  clear G G0
  go_enter Tryd.func31, Tryd.ntmps31
  go_wp2
  go_ret
  exact ⟨rfl, hB0.out⟩
set_option maxRecDepth 100000 in
set_option maxHeartbeats 4000000 in
theorem gresult_2 (G : GAt w base mb stb sb X p vi) (d a b : Nat) (hd : d < 64) (ha : a < 64) (hb : b < 64) (i t : Int) :
    Calls Tryd.prog 31 #[.pointer (some ⟨mb, 0, none⟩), .agg #[.string ⟨#[99, 111, 112, 121]⟩, .int .i64 d, .int .i64 a, .int .i64 b, .int .u32 i, .int .i64 t]] w fun e w' => e = .returned (.int .u32 (valV 2 (X a) (X b) (X d) i)) ∧ Below w.heap.size w w' := by
  have O := OAt.new w ⟨#[99, 111, 112, 121]⟩ d a b i t
  have G0 := G.opened (.cells #[.string ⟨#[99, 111, 112, 121]⟩, .int .i64 d, .int .i64 a, .int .i64 b, .int .u32 i, .int .i64 t] 53)
  have hB0 : Hid (Below w.heap.size w (w.alloc (.cells #[.string ⟨#[99, 111, 112, 121]⟩, .int .i64 d, .int .i64 a, .int .i64 b, .int .u32 i, .int .i64 t] 53))) := (Below.refl _ _).alloc (Nat.le_refl _) _
  have hd' : (d : Int) < 64 := by omega
  have ha' : (a : Int) < 64 := by omega
  have hb' : (b : Int) < 64 := by omega
  have hmw := G.lt
  show Calls _ _ _ _ fun e w' => e = .returned (.int .u32 (X a)) ∧ _
  go_enter Tryd.func31, Tryd.ntmps31
  go_upto_region 5 with fail
  clear G
  generalize w.alloc (.cells #[.string ⟨#[99, 111, 112, 121]⟩, .int .i64 d, .int .i64 a, .int .i64 b, .int .u32 i, .int .i64 t] 53) = V at *
  have k2 := O.c2
  have xa := G0.x a ha
  refine wp_region_phase 8 [(0, 0), (1, 0), (2, 1), (3, 0), (4, 0), (5, 0), (6, 1), (7, 0)] (fun W => W.cell? ⟨w.heap.size, 2, none⟩ = some (.int .i64 a) ∧ W.cell? ⟨mb, 1 + a, none⟩ = some (.int .u32 (X a))) (by kernel_rfl) (by kernel_rfl) (fun _ _ _ d _ h => by cases d <;> exact h) ⟨k2, xa⟩ ?_
  repeat (first | (refine wpPlanZ_free (by rfl) (by rfl) (fun W => by (go_simp; try with_reducible rfl)) (fun K hK => ?_); go_simp; refine hK _ ?_; clear hK K) | (refine wpPlanZ_quiet (by rfl) (by rfl) (fun W hW => by (obtain ⟨z0, z1⟩ := hW; go_simp; try with_reducible rfl)) (fun K hK => ?_); go_simp; refine hK _ ?_; clear hK K))
  refine wpPlanZ_nil ?_
  go_wp2
  go_ret
  exact ⟨rfl, hB0.out.drew⟩
set_option maxRecDepth 100000 in
set_option maxHeartbeats 4000000 in
theorem gresult_17 (G : GAt w base mb stb sb X p vi) (d a b : Nat) (hd : d < 64) (ha : a < 64) (hb : b < 64) (i t : Int) :
    Calls Tryd.prog 31 #[.pointer (some ⟨mb, 0, none⟩), .agg #[.string ⟨#[113, 117, 111]⟩, .int .i64 d, .int .i64 a, .int .i64 b, .int .u32 i, .int .i64 t]] w fun e w' => e = .returned (.int .u32 (valV 17 (X a) (X b) (X d) i)) ∧ Below w.heap.size w w' := by
  have O := OAt.new w ⟨#[113, 117, 111]⟩ d a b i t
  have G0 := G.opened (.cells #[.string ⟨#[113, 117, 111]⟩, .int .i64 d, .int .i64 a, .int .i64 b, .int .u32 i, .int .i64 t] 53)
  have hB0 : Hid (Below w.heap.size w (w.alloc (.cells #[.string ⟨#[113, 117, 111]⟩, .int .i64 d, .int .i64 a, .int .i64 b, .int .u32 i, .int .i64 t] 53))) := (Below.refl _ _).alloc (Nat.le_refl _) _
  have hd' : (d : Int) < 64 := by omega
  have ha' : (a : Int) < 64 := by omega
  have hb' : (b : Int) < 64 := by omega
  have hmw := G.lt
  have hv : valV 17 (X a) (X b) (X d) i = if X b = 0 then X d else quo (X a) (X b) true := by simp [valV]
  rw [hv]
  have hq : Calls Tryd.prog 45 #[.pointer (some ⟨mb, 0, none⟩), .agg #[.string ⟨#[113, 117, 111]⟩, .int .i64 d, .int .i64 a, .int .i64 b, .int .u32 i, .int .i64 t]] (w.alloc (.cells #[.string ⟨#[113, 117, 111]⟩, .int .i64 d, .int .i64 a, .int .i64 b, .int .u32 i, .int .i64 t] 53)) fun e w' => e = .returned (.int .u32 (if X b = 0 then X d else quo (X a) (X b) true)) ∧ Below (w.alloc (.cells #[.string ⟨#[113, 117, 111]⟩, .int .i64 d, .int .i64 a, .int .i64 b, .int .u32 i, .int .i64 t] 53)).heap.size (w.alloc (.cells #[.string ⟨#[113, 117, 111]⟩, .int .i64 d, .int .i64 a, .int .i64 b, .int .u32 i, .int .i64 t] 53)) w' := by
    by_cases h0 : X b = 0
    · rw [if_pos h0]; exact quotient_17_0 G0 d a b hd ha hb i t h0
    · rw [if_neg h0]; exact quotient_17 G0 d a b hd ha hb i t h0
  clear hv
  generalize (if X b = 0 then X d else quo (X a) (X b) true) = qv at *
  clear G G0
  go_enter Tryd.func31, Tryd.ntmps31
  go_wp2_with fail
  refine hq.mono ?_
  rintro e w2 ⟨rfl, hb2⟩
  have hB2 : Hid (Below w.heap.size w w2) := hB0.out.trans (hb2.mono hB0.out.size)
  clear hq hb2 O
  go_wp2
  go_ret
  exact ⟨rfl, hB2.out⟩
set_option maxRecDepth 100000 in
set_option maxHeartbeats 4000000 in
theorem gresult_18 (G : GAt w base mb stb sb X p vi) (d a b : Nat) (hd : d < 64) (ha : a < 64) (hb : b < 64) (i t : Int) :
    Calls Tryd.prog 31 #[.pointer (some ⟨mb, 0, none⟩), .agg #[.string ⟨#[114, 101, 109]⟩, .int .i64 d, .int .i64 a, .int .i64 b, .int .u32 i, .int .i64 t]] w fun e w' => e = .returned (.int .u32 (valV 18 (X a) (X b) (X d) i)) ∧ Below w.heap.size w w' := by
  have O := OAt.new w ⟨#[114, 101, 109]⟩ d a b i t
  have G0 := G.opened (.cells #[.string ⟨#[114, 101, 109]⟩, .int .i64 d, .int .i64 a, .int .i64 b, .int .u32 i, .int .i64 t] 53)
  have hB0 : Hid (Below w.heap.size w (w.alloc (.cells #[.string ⟨#[114, 101, 109]⟩, .int .i64 d, .int .i64 a, .int .i64 b, .int .u32 i, .int .i64 t] 53))) := (Below.refl _ _).alloc (Nat.le_refl _) _
  have hd' : (d : Int) < 64 := by omega
  have ha' : (a : Int) < 64 := by omega
  have hb' : (b : Int) < 64 := by omega
  have hmw := G.lt
  have hv : valV 18 (X a) (X b) (X d) i = if X b = 0 then X d else rst (X a) (X b) true := by simp [valV]
  rw [hv]
  have hq : Calls Tryd.prog 45 #[.pointer (some ⟨mb, 0, none⟩), .agg #[.string ⟨#[114, 101, 109]⟩, .int .i64 d, .int .i64 a, .int .i64 b, .int .u32 i, .int .i64 t]] (w.alloc (.cells #[.string ⟨#[114, 101, 109]⟩, .int .i64 d, .int .i64 a, .int .i64 b, .int .u32 i, .int .i64 t] 53)) fun e w' => e = .returned (.int .u32 (if X b = 0 then X d else rst (X a) (X b) true)) ∧ Below (w.alloc (.cells #[.string ⟨#[114, 101, 109]⟩, .int .i64 d, .int .i64 a, .int .i64 b, .int .u32 i, .int .i64 t] 53)).heap.size (w.alloc (.cells #[.string ⟨#[114, 101, 109]⟩, .int .i64 d, .int .i64 a, .int .i64 b, .int .u32 i, .int .i64 t] 53)) w' := by
    by_cases h0 : X b = 0
    · rw [if_pos h0]; exact quotient_18_0 G0 d a b hd ha hb i t h0
    · rw [if_neg h0]; exact quotient_18 G0 d a b hd ha hb i t h0
  clear hv
  generalize (if X b = 0 then X d else rst (X a) (X b) true) = qv at *
  clear G G0
  go_enter Tryd.func31, Tryd.ntmps31
  go_wp2_with fail
  refine hq.mono ?_
  rintro e w2 ⟨rfl, hb2⟩
  have hB2 : Hid (Below w.heap.size w w2) := hB0.out.trans (hb2.mono hB0.out.size)
  clear hq hb2 O
  go_wp2
  go_ret
  exact ⟨rfl, hB2.out⟩
set_option maxRecDepth 100000 in
set_option maxHeartbeats 4000000 in
theorem gresult_19 (G : GAt w base mb stb sb X p vi) (d a b : Nat) (hd : d < 64) (ha : a < 64) (hb : b < 64) (i t : Int) :
    Calls Tryd.prog 31 #[.pointer (some ⟨mb, 0, none⟩), .agg #[.string ⟨#[113, 117, 111, 117]⟩, .int .i64 d, .int .i64 a, .int .i64 b, .int .u32 i, .int .i64 t]] w fun e w' => e = .returned (.int .u32 (valV 19 (X a) (X b) (X d) i)) ∧ Below w.heap.size w w' := by
  have O := OAt.new w ⟨#[113, 117, 111, 117]⟩ d a b i t
  have G0 := G.opened (.cells #[.string ⟨#[113, 117, 111, 117]⟩, .int .i64 d, .int .i64 a, .int .i64 b, .int .u32 i, .int .i64 t] 53)
  have hB0 : Hid (Below w.heap.size w (w.alloc (.cells #[.string ⟨#[113, 117, 111, 117]⟩, .int .i64 d, .int .i64 a, .int .i64 b, .int .u32 i, .int .i64 t] 53))) := (Below.refl _ _).alloc (Nat.le_refl _) _
  have hd' : (d : Int) < 64 := by omega
  have ha' : (a : Int) < 64 := by omega
  have hb' : (b : Int) < 64 := by omega
  have hmw := G.lt
  have hv : valV 19 (X a) (X b) (X d) i = if X b = 0 then X d else quo (X a) (X b) false := by simp [valV]
  rw [hv]
  have hq : Calls Tryd.prog 45 #[.pointer (some ⟨mb, 0, none⟩), .agg #[.string ⟨#[113, 117, 111, 117]⟩, .int .i64 d, .int .i64 a, .int .i64 b, .int .u32 i, .int .i64 t]] (w.alloc (.cells #[.string ⟨#[113, 117, 111, 117]⟩, .int .i64 d, .int .i64 a, .int .i64 b, .int .u32 i, .int .i64 t] 53)) fun e w' => e = .returned (.int .u32 (if X b = 0 then X d else quo (X a) (X b) false)) ∧ Below (w.alloc (.cells #[.string ⟨#[113, 117, 111, 117]⟩, .int .i64 d, .int .i64 a, .int .i64 b, .int .u32 i, .int .i64 t] 53)).heap.size (w.alloc (.cells #[.string ⟨#[113, 117, 111, 117]⟩, .int .i64 d, .int .i64 a, .int .i64 b, .int .u32 i, .int .i64 t] 53)) w' := by
    by_cases h0 : X b = 0
    · rw [if_pos h0]; exact quotient_19_0 G0 d a b hd ha hb i t h0
    · rw [if_neg h0]; exact quotient_19 G0 d a b hd ha hb i t h0
  clear hv
  generalize (if X b = 0 then X d else quo (X a) (X b) false) = qv at *
  clear G G0
  go_enter Tryd.func31, Tryd.ntmps31
  go_wp2_with fail
  refine hq.mono ?_
  rintro e w2 ⟨rfl, hb2⟩
  have hB2 : Hid (Below w.heap.size w w2) := hB0.out.trans (hb2.mono hB0.out.size)
  clear hq hb2 O
  go_wp2
  go_ret
  exact ⟨rfl, hB2.out⟩
set_option maxRecDepth 100000 in
set_option maxHeartbeats 4000000 in
theorem gresult_20 (G : GAt w base mb stb sb X p vi) (d a b : Nat) (hd : d < 64) (ha : a < 64) (hb : b < 64) (i t : Int) :
    Calls Tryd.prog 31 #[.pointer (some ⟨mb, 0, none⟩), .agg #[.string ⟨#[114, 101, 109, 117]⟩, .int .i64 d, .int .i64 a, .int .i64 b, .int .u32 i, .int .i64 t]] w fun e w' => e = .returned (.int .u32 (valV 20 (X a) (X b) (X d) i)) ∧ Below w.heap.size w w' := by
  have O := OAt.new w ⟨#[114, 101, 109, 117]⟩ d a b i t
  have G0 := G.opened (.cells #[.string ⟨#[114, 101, 109, 117]⟩, .int .i64 d, .int .i64 a, .int .i64 b, .int .u32 i, .int .i64 t] 53)
  have hB0 : Hid (Below w.heap.size w (w.alloc (.cells #[.string ⟨#[114, 101, 109, 117]⟩, .int .i64 d, .int .i64 a, .int .i64 b, .int .u32 i, .int .i64 t] 53))) := (Below.refl _ _).alloc (Nat.le_refl _) _
  have hd' : (d : Int) < 64 := by omega
  have ha' : (a : Int) < 64 := by omega
  have hb' : (b : Int) < 64 := by omega
  have hmw := G.lt
  have hv : valV 20 (X a) (X b) (X d) i = if X b = 0 then X d else rst (X a) (X b) false := by simp [valV]
  rw [hv]
  have hq : Calls Tryd.prog 45 #[.pointer (some ⟨mb, 0, none⟩), .agg #[.string ⟨#[114, 101, 109, 117]⟩, .int .i64 d, .int .i64 a, .int .i64 b, .int .u32 i, .int .i64 t]] (w.alloc (.cells #[.string ⟨#[114, 101, 109, 117]⟩, .int .i64 d, .int .i64 a, .int .i64 b, .int .u32 i, .int .i64 t] 53)) fun e w' => e = .returned (.int .u32 (if X b = 0 then X d else rst (X a) (X b) false)) ∧ Below (w.alloc (.cells #[.string ⟨#[114, 101, 109, 117]⟩, .int .i64 d, .int .i64 a, .int .i64 b, .int .u32 i, .int .i64 t] 53)).heap.size (w.alloc (.cells #[.string ⟨#[114, 101, 109, 117]⟩, .int .i64 d, .int .i64 a, .int .i64 b, .int .u32 i, .int .i64 t] 53)) w' := by
    by_cases h0 : X b = 0
    · rw [if_pos h0]; exact quotient_20_0 G0 d a b hd ha hb i t h0
    · rw [if_neg h0]; exact quotient_20 G0 d a b hd ha hb i t h0
  clear hv
  generalize (if X b = 0 then X d else rst (X a) (X b) false) = qv at *
  clear G G0
  go_enter Tryd.func31, Tryd.ntmps31
  go_wp2_with fail
  refine hq.mono ?_
  rintro e w2 ⟨rfl, hb2⟩
  have hB2 : Hid (Below w.heap.size w w2) := hB0.out.trans (hb2.mono hB0.out.size)
  clear hq hb2 O
  go_wp2
  go_ret
  exact ⟨rfl, hB2.out⟩
set_option maxRecDepth 100000 in
set_option maxHeartbeats 4000000 in
theorem gresult_sum (G : GAt w base mb stb sb X p vi) (s : ByteArray) (h1 : (s.toList == [115, 101, 116]) = false) (h2 : (s.toList == [99, 111, 112, 121]) = false) (h17 : (s.toList == [113, 117, 111]) = false) (h18 : (s.toList == [114, 101, 109]) = false) (h19 : (s.toList == [113, 117, 111, 117]) = false) (h20 : (s.toList == [114, 101, 109, 117]) = false) (d a b : Nat) (hd : d < 64) (ha : a < 64) (hb : b < 64) (i t v : Int)
    (hr : ∀ W, Calls Tryd.prog 46 #[.string s, .int .u32 (X a), .int .u32 (X b)] W fun e w' => e = .returned (.int .u32 v) ∧ w' = W) :
    Calls Tryd.prog 31 #[.pointer (some ⟨mb, 0, none⟩), .agg #[.string s, .int .i64 d, .int .i64 a, .int .i64 b, .int .u32 i, .int .i64 t]] w fun e w' => e = .returned (.int .u32 v) ∧ Below w.heap.size w w' := by
  have O := OAt.new w s d a b i t
  have G0 := G.opened (.cells #[.string s, .int .i64 d, .int .i64 a, .int .i64 b, .int .u32 i, .int .i64 t] 53)
  have hB0 : Hid (Below w.heap.size w (w.alloc (.cells #[.string s, .int .i64 d, .int .i64 a, .int .i64 b, .int .u32 i, .int .i64 t] 53))) := (Below.refl _ _).alloc (Nat.le_refl _) _
  have ha' : (a : Int) < 64 := by omega
  have hb' : (b : Int) < 64 := by omega
  have hmw := G.lt
  go_enter Tryd.func31, Tryd.ntmps31
  go_upto_region 11 with fail
  clear G
  generalize w.alloc (.cells #[.string s, .int .i64 d, .int .i64 a, .int .i64 b, .int .u32 i, .int .i64 t] 53) = V at *
  have k0 := O.c0
  have k2 := O.c2
  have k3 := O.c3
  have xa := G0.x a ha
  have xb := G0.x b hb
  refine wp_region_phase 18 [(0, 0), (1, 1), (2, 0), (3, 0), (4, 1), (5, 0), (6, 0), (7, 0), (8, 1), (9, 0), (10, 0), (11, 1), (12, 0), (13, 0), (14, 0), (15, 1), (16, 2), (17, 0)] (fun W => W.cell? ⟨w.heap.size, 0, none⟩ = some (.string s) ∧ W.cell? ⟨w.heap.size, 2, none⟩ = some (.int .i64 a) ∧ W.cell? ⟨w.heap.size, 3, none⟩ = some (.int .i64 b) ∧ W.cell? ⟨mb, 1 + a, none⟩ = some (.int .u32 (X a)) ∧ W.cell? ⟨mb, 1 + b, none⟩ = some (.int .u32 (X b))) (by kernel_rfl) (by kernel_rfl) (fun _ _ _ d _ h => by cases d <;> exact h) ⟨k0, k2, k3, xa, xb⟩ ?_
  repeat (first | (refine wpPlanZ_free (by rfl) (by rfl) (fun W => by (go_simp; try with_reducible rfl)) (fun K hK => ?_); go_simp; refine hK _ ?_; clear hK K) | (refine wpPlanZ_quiet (by rfl) (by rfl) (fun W hW => by (obtain ⟨z0, z1, z2, z3, z4⟩ := hW; go_simp; try with_reducible rfl)) (fun K hK => ?_); go_simp; refine hK _ ?_; clear hK K))
  refine wpPlanZ_serial (by rfl) (by rfl) (fun K hK => ?_)
  go_simp
  refine (hr _).mono ?_
  rintro e w' ⟨rfl, rfl⟩
  refine hK _ _ (fun _ => ⟨k0, k2, k3, xa, xb⟩) ?_
  clear hK K
  repeat (first | (refine wpPlanZ_free (by rfl) (by rfl) (fun W => by (go_simp; try with_reducible rfl)) (fun K hK => ?_); go_simp; refine hK _ ?_; clear hK K) | (refine wpPlanZ_quiet (by rfl) (by rfl) (fun W hW => by (obtain ⟨z0, z1, z2, z3, z4⟩ := hW; go_simp; try with_reducible rfl)) (fun K hK => ?_); go_simp; refine hK _ ?_; clear hK K))
  refine wpPlanZ_nil ?_
  go_wp2
  go_ret
  exact ⟨rfl, hB0.out.drew⟩
end
end Go.Proofs.YtkehhlibkebomaaDoor
