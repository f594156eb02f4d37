/-
  Package ir: quotients; an op that goes on, all of them.
-/
import Derived.Test.YtjjlbpenagobiaaDoorIrDo2
namespace Go.Proofs.YtjjlbpenagobiaaDoor
open Go.RowKit Go.Maps
open Num
set_option linter.unusedVariables false
/-- a step of a plan that is not wanted -/
theorem wpPlanZ_skip {P : Program} {ops : Array Oper} {Q : Exit → Act → World → Prop} {C : World → Prop} {z : Nat} {on : Bool} {i k : Nat} {rest : List (Nat × Nat)} {a : Act} {w : World} {o : Oper} (ho : ops[i]? = some o) (hwt : Region.wanted o (yielded ops a.tmps) = false) (h : ∀ K : Act → Prop, (∀ a', wpPlanZ P ops C z Q (on && i != z) rest a' w → K a') → K (a.put o.dst undef)) : wpPlanZ P ops C z Q on ((i, k) :: rest) a w :=
  ⟨o, ho, by unfold oneZ; rw [if_neg (by simp [hwt])]; exact h _ (fun _ h => h)⟩
section
variable {w : World} {base mb sb bp bw bh N : Nat} {X : Nat → Int} {p : List Pq} {vi : Value} {m : Nat → Int} {wt ht : Int → Bool}
set_option maxRecDepth 100000 in
set_option maxHeartbeats 4000000 in
theorem divide_17_0 (G : MAt w base mb sb X p vi) (d a b : Nat) (hd : d < 64) (ha : a < 64) (hb : b < 64) (i t : Int) (h0 : X b = 0) :
    Calls Tryd.prog 37 #[.pointer (some ⟨mb, 0, none⟩), .agg #[.string ⟨#[113, 117, 111]⟩, .int .i64 d, .int .i64 a, .int .i64 b, .int .u32 i, .int .i64 t]] w fun e w' => e = .returned (.tuple #[]) ∧ MAt w' base mb sb X p vi ∧ Kx w w' mb vi := by
  have O := OAt.new w ⟨#[113, 117, 111]⟩ d a b i t
  have G0 := G.opened (.cells #[.string ⟨#[113, 117, 111]⟩, .int .i64 d, .int .i64 a, .int .i64 b, .int .u32 i, .int .i64 t] 53)
  have hB0 : Hid (Kx w (w.alloc (.cells #[.string ⟨#[113, 117, 111]⟩, .int .i64 d, .int .i64 a, .int .i64 b, .int .u32 i, .int .i64 t] 53)) mb vi) := Kx.alloc _ _ _ _
  have hd' : (d : Int) < 64 := by omega
  have ha' : (a : Int) < 64 := by omega
  have hb' : (b : Int) < 64 := by omega
  obtain ⟨xa0, xa1⟩ := G.xb a
  obtain ⟨xb0, xb1⟩ := G.xb b
  have hcall := fun W => div_0 (X a) true W
  have H0 : Hid (X b = 0) := h0
  clear h0 xb0 xb1
  go_enter Tryd.func37, Tryd.ntmps37
  go_upto_region 1 with fail
  have hnb : w.heap.size ≠ mb := by have := G.lt; omega
  clear G
  generalize w.alloc (.cells #[.string ⟨#[113, 117, 111]⟩, .int .i64 d, .int .i64 a, .int .i64 b, .int .u32 i, .int .i64 t] 53) = V at *
  have k0 := O.c0
  have k2 := O.c2
  have k3 := O.c3
  have xa := G0.x a ha
  have xb : V.cell? ⟨mb, b, none⟩ = some (.int .u32 0) := by rw [G0.x b hb, H0.out]
  refine wp_region_phase 30 [(0, 0), (1, 0), (2, 1), (3, 0), (4, 0), (5, 0), (6, 1), (7, 0), (8, 0), (9, 1), (10, 0), (11, 0), (12, 0), (13, 1), (14, 0), (15, 1), (16, 0), (17, 0), (18, 0), (19, 1), (20, 0), (21, 0), (22, 2), (23, 0), (24, 0), (25, 0), (26, 0), (27, 0), (28, 0), (29, 0)] (fun W => W.cell? ⟨w.heap.size, 0, none⟩ = some (.string ⟨#[113, 117, 111]⟩) ∧ W.cell? ⟨w.heap.size, 2, none⟩ = some (.int .i64 a) ∧ W.cell? ⟨w.heap.size, 3, none⟩ = some (.int .i64 b) ∧ W.cell? ⟨mb, a, none⟩ = some (.int .u32 (X a)) ∧ W.cell? ⟨mb, b, none⟩ = some (.int .u32 0)) (by kernel_rfl) (by kernel_rfl) (fun _ _ _ d _ h => by cases d <;> exact h) ⟨by simpa using k0, by simpa using k2, by simpa using k3, by simpa using xa, by simpa using xb⟩ ?_
  repeat (first | (refine wpPlanZ_free (by rfl) (by rfl) (fun W => by (go_simp; try with_reducible rfl)) (fun K hK => ?_); go_simp; refine hK _ ?_; clear hK K) | (refine wpPlanZ_skip (by rfl) (by rfl) (fun K hK => ?_); go_simp; refine hK _ ?_; clear hK K) | (refine wpPlanZ_quiet (by rfl) (by rfl) (fun W hW => by (obtain ⟨z0, z1, z2, z3, z4⟩ := hW; go_simp; try with_reducible rfl)) (fun K hK => ?_); go_simp; refine hK _ ?_; clear hK K))
  refine wpPlanZ_serial (by rfl) (by rfl) (fun K hK => ?_)
  go_simp
  refine (hcall _).mono ?_
  rintro e w' ⟨rfl, rfl⟩
  refine hK _ _ (fun _ => ⟨by simpa using k0, by simpa using k2, by simpa using k3, by simpa using xa, by simpa using xb⟩) ?_
  clear hK K hcall
  repeat (first | (refine wpPlanZ_free (by rfl) (by rfl) (fun W => by (go_simp; try with_reducible rfl)) (fun K hK => ?_); go_simp; refine hK _ ?_; clear hK K) | (refine wpPlanZ_skip (by rfl) (by rfl) (fun K hK => ?_); go_simp; refine hK _ ?_; clear hK K) | (refine wpPlanZ_quiet (by rfl) (by rfl) (fun W hW => by (obtain ⟨z0, z1, z2, z3, z4⟩ := hW; go_simp; try with_reducible rfl)) (fun K hK => ?_); go_simp; refine hK _ ?_; clear hK K))
  refine wpPlanZ_nil ?_
  go_wp2
  go_end0
  exact ⟨rfl, G0.drew, hB0.out.drew⟩
set_option maxRecDepth 100000 in
set_option maxHeartbeats 4000000 in
theorem divide_17 (G : MAt w base mb sb X p vi) (d a b : Nat) (hd : d < 64) (ha : a < 64) (hb : b < 64) (i t : Int) (h0 : X b ≠ 0) :
    Calls Tryd.prog 37 #[.pointer (some ⟨mb, 0, none⟩), .agg #[.string ⟨#[113, 117, 111]⟩, .int .i64 d, .int .i64 a, .int .i64 b, .int .u32 i, .int .i64 t]] w fun e w' => e = .returned (.tuple #[]) ∧ MAt w' base mb sb (setX X d (quo (X a) (X b) true)) p vi ∧ Kx w w' mb vi := by
  have O := OAt.new w ⟨#[113, 117, 111]⟩ d a b i t
  have G0 := G.opened (.cells #[.string ⟨#[113, 117, 111]⟩, .int .i64 d, .int .i64 a, .int .i64 b, .int .u32 i, .int .i64 t] 53)
  have hB0 : Hid (Kx w (w.alloc (.cells #[.string ⟨#[113, 117, 111]⟩, .int .i64 d, .int .i64 a, .int .i64 b, .int .u32 i, .int .i64 t] 53)) mb vi) := Kx.alloc _ _ _ _
  have hd' : (d : Int) < 64 := by omega
  have ha' : (a : Int) < 64 := by omega
  have hb' : (b : Int) < 64 := by omega
  obtain ⟨xa0, xa1⟩ := G.xb a
  obtain ⟨xb0, xb1⟩ := G.xb b
  have hcall := fun W => div_any (X a) (X b) true xa0 xa1 (by omega) xb1 W
  have hv : u32 (quo (X a) (X b) true) := quo_bd _ _ _
  generalize quo (X a) (X b) true = qv at *
  go_enter Tryd.func37, Tryd.ntmps37
  go_upto_region 1 with fail
  have hnb : w.heap.size ≠ mb := by have := G.lt; omega
  clear G
  generalize w.alloc (.cells #[.string ⟨#[113, 117, 111]⟩, .int .i64 d, .int .i64 a, .int .i64 b, .int .u32 i, .int .i64 t] 53) = V at *
  have k0 := O.c0
  have k2 := O.c2
  have k3 := O.c3
  have xa := G0.x a ha
  have xb := G0.x b hb
  refine wp_region_phase 30 [(0, 0), (1, 0), (2, 1), (3, 0), (4, 0), (5, 0), (6, 1), (7, 0), (8, 0), (9, 1), (10, 0), (11, 0), (12, 0), (13, 1), (14, 0), (15, 1), (16, 0), (17, 0), (18, 0), (19, 1), (20, 0), (21, 0), (22, 2), (23, 0), (24, 0), (25, 0), (26, 0), (27, 0), (28, 0), (29, 0)] (fun W => W.cell? ⟨w.heap.size, 0, none⟩ = some (.string ⟨#[113, 117, 111]⟩) ∧ W.cell? ⟨w.heap.size, 2, none⟩ = some (.int .i64 a) ∧ W.cell? ⟨w.heap.size, 3, none⟩ = some (.int .i64 b) ∧ W.cell? ⟨mb, a, none⟩ = some (.int .u32 (X a)) ∧ W.cell? ⟨mb, b, none⟩ = some (.int .u32 (X b))) (by kernel_rfl) (by kernel_rfl) (fun _ _ _ d _ h => by cases d <;> exact h) ⟨by simpa using k0, by simpa using k2, by simpa using k3, by simpa using xa, by simpa using xb⟩ ?_
  repeat (first | (refine wpPlanZ_free (by rfl) (by rfl) (fun W => by (go_simp; try with_reducible rfl)) (fun K hK => ?_); go_simp; refine hK _ ?_; clear hK K) | (refine wpPlanZ_skip (by rfl) (by rfl) (fun K hK => ?_); go_simp; refine hK _ ?_; clear hK K) | (refine wpPlanZ_quiet (by rfl) (by rfl) (fun W hW => by (obtain ⟨z0, z1, z2, z3, z4⟩ := hW; go_simp; try with_reducible rfl)) (fun K hK => ?_); go_simp; refine hK _ ?_; clear hK K))
  refine wpPlanZ_serial (by rfl) (by rfl) (fun K hK => ?_)
  go_simp
  refine (hcall _).mono ?_
  rintro e w' ⟨rfl, rfl⟩
  refine hK _ _ (fun _ => ⟨by simpa using k0, by simpa using k2, by simpa using k3, by simpa using xa, by simpa using xb⟩) ?_
  clear hK K hcall
  repeat (first | (refine wpPlanZ_free (by rfl) (by rfl) (fun W => by (go_simp; try with_reducible rfl)) (fun K hK => ?_); go_simp; refine hK _ ?_; clear hK K) | (refine wpPlanZ_skip (by rfl) (by rfl) (fun K hK => ?_); go_simp; refine hK _ ?_; clear hK K) | (refine wpPlanZ_quiet (by rfl) (by rfl) (fun W hW => by (obtain ⟨z0, z1, z2, z3, z4⟩ := hW; go_simp; try with_reducible rfl)) (fun K hK => ?_); go_simp; refine hK _ ?_; clear hK K))
  refine wpPlanZ_nil ?_
  have k1 := O.c1
  have xd := G0.x d hd
  have fd := G0.fz d
  go_upto_region 5 with fail
  refine wp_region_phase 7 [(0, 0), (1, 0), (2, 1), (3, 0), (4, 0), (5, 0), (6, 0), (7, 2)] (fun W => W.cell? ⟨w.heap.size, 1, none⟩ = some (.int .i64 d)) (by kernel_rfl) (by kernel_rfl) (fun _ _ _ d _ h => by cases d <;> exact h) (by simpa using k1) ?_
  repeat (first | (refine wpPlanZ_free (by rfl) (by rfl) (fun W => by (go_simp; try with_reducible rfl)) (fun K hK => ?_); go_simp; refine hK _ ?_; clear hK K) | (refine wpPlanZ_skip (by rfl) (by rfl) (fun K hK => ?_); go_simp; refine hK _ ?_; clear hK K) | (refine wpPlanZ_quiet (by rfl) (by rfl) (fun W hW => by (have z0 := hW; go_simp; try with_reducible rfl)) (fun K hK => ?_); go_simp; refine hK _ ?_; clear hK K))
  refine wpPlanZ_serial (by rfl) (by rfl) (fun K hK => ?_)
  go_simp
  refine hK _ _ (fun h => absurd h (by decide)) ?_
  clear hK K
  refine wpPlanZ_nil ?_
  go_wp2
  go_end0
  exact ⟨rfl, (G0.put d hd _ hv).drew.drew.drew, (hB0.out.setCell d _).drew.drew.drew⟩
set_option maxRecDepth 100000 in
set_option maxHeartbeats 4000000 in
theorem do_17 (G : MAt w base mb sb X p vi) (d a b : Nat) (i t : Int) (Xn : Nat → Int) (hr : ∀ W, MAt W base mb sb X p vi → Calls Tryd.prog 37 #[.pointer (some ⟨mb, 0, none⟩), .agg #[.string ⟨#[113, 117, 111]⟩, .int .i64 d, .int .i64 a, .int .i64 b, .int .u32 i, .int .i64 t]] W fun e w' => e = .returned (.tuple #[]) ∧ MAt w' base mb sb Xn p vi ∧ Kx W w' mb vi) :
    Calls Tryd.prog 26 #[.pointer (some ⟨mb, 0, none⟩), .agg #[.string ⟨#[113, 117, 111]⟩, .int .i64 d, .int .i64 a, .int .i64 b, .int .u32 i, .int .i64 t]] w fun e w' => e = .returned (.bool true) ∧ MAt w' base mb sb Xn p vi ∧ Kx w w' mb vi := by
  have O := OAt.new w ⟨#[113, 117, 111]⟩ d a b i t
  have G0 := G.opened (.cells #[.string ⟨#[113, 117, 111]⟩, .int .i64 d, .int .i64 a, .int .i64 b, .int .u32 i, .int .i64 t] 53)
  have hB0 : Hid (Kx w (w.alloc (.cells #[.string ⟨#[113, 117, 111]⟩, .int .i64 d, .int .i64 a, .int .i64 b, .int .u32 i, .int .i64 t] 53)) mb vi) := Kx.alloc _ _ _ _
  have hcall := hr _ G0
  clear hr G O
  go_enter Tryd.func26, Tryd.ntmps26
  go_wp2_with fail
  refine hcall.mono ?_
  rintro e w2 ⟨rfl, G2, hb2⟩
  go_wp2
  go_ret
  exact ⟨rfl, G2, hB0.out.trans hb2⟩
set_option maxRecDepth 100000 in
set_option maxHeartbeats 4000000 in
theorem divide_18_0 (G : MAt w base mb sb X p vi) (d a b : Nat) (hd : d < 64) (ha : a < 64) (hb : b < 64) (i t : Int) (h0 : X b = 0) :
    Calls Tryd.prog 37 #[.pointer (some ⟨mb, 0, none⟩), .agg #[.string ⟨#[114, 101, 109]⟩, .int .i64 d, .int .i64 a, .int .i64 b, .int .u32 i, .int .i64 t]] w fun e w' => e = .returned (.tuple #[]) ∧ MAt w' base mb sb X p vi ∧ Kx w w' mb vi := by
  have O := OAt.new w ⟨#[114, 101, 109]⟩ d a b i t
  have G0 := G.opened (.cells #[.string ⟨#[114, 101, 109]⟩, .int .i64 d, .int .i64 a, .int .i64 b, .int .u32 i, .int .i64 t] 53)
  have hB0 : Hid (Kx w (w.alloc (.cells #[.string ⟨#[114, 101, 109]⟩, .int .i64 d, .int .i64 a, .int .i64 b, .int .u32 i, .int .i64 t] 53)) mb vi) := Kx.alloc _ _ _ _
  have hd' : (d : Int) < 64 := by omega
  have ha' : (a : Int) < 64 := by omega
  have hb' : (b : Int) < 64 := by omega
  obtain ⟨xa0, xa1⟩ := G.xb a
  obtain ⟨xb0, xb1⟩ := G.xb b
  have hcall := fun W => div_0 (X a) true W
  have H0 : Hid (X b = 0) := h0
  clear h0 xb0 xb1
  go_enter Tryd.func37, Tryd.ntmps37
  go_upto_region 1 with fail
  have hnb : w.heap.size ≠ mb := by have := G.lt; omega
  clear G
  generalize w.alloc (.cells #[.string ⟨#[114, 101, 109]⟩, .int .i64 d, .int .i64 a, .int .i64 b, .int .u32 i, .int .i64 t] 53) = V at *
  have k0 := O.c0
  have k2 := O.c2
  have k3 := O.c3
  have xa := G0.x a ha
  have xb : V.cell? ⟨mb, b, none⟩ = some (.int .u32 0) := by rw [G0.x b hb, H0.out]
  refine wp_region_phase 30 [(0, 0), (1, 0), (2, 1), (3, 0), (4, 0), (5, 0), (6, 1), (7, 0), (8, 0), (9, 1), (10, 0), (11, 0), (12, 0), (13, 1), (14, 0), (15, 1), (16, 0), (17, 0), (18, 0), (19, 1), (20, 0), (21, 0), (22, 2), (23, 0), (24, 0), (25, 0), (26, 0), (27, 0), (28, 0), (29, 0)] (fun W => W.cell? ⟨w.heap.size, 0, none⟩ = some (.string ⟨#[114, 101, 109]⟩) ∧ W.cell? ⟨w.heap.size, 2, none⟩ = some (.int .i64 a) ∧ W.cell? ⟨w.heap.size, 3, none⟩ = some (.int .i64 b) ∧ W.cell? ⟨mb, a, none⟩ = some (.int .u32 (X a)) ∧ W.cell? ⟨mb, b, none⟩ = some (.int .u32 0)) (by kernel_rfl) (by kernel_rfl) (fun _ _ _ d _ h => by cases d <;> exact h) ⟨by simpa using k0, by simpa using k2, by simpa using k3, by simpa using xa, by simpa using xb⟩ ?_
  repeat (first | (refine wpPlanZ_free (by rfl) (by rfl) (fun W => by (go_simp; try with_reducible rfl)) (fun K hK => ?_); go_simp; refine hK _ ?_; clear hK K) | (refine wpPlanZ_skip (by rfl) (by rfl) (fun K hK => ?_); go_simp; refine hK _ ?_; clear hK K) | (refine wpPlanZ_quiet (by rfl) (by rfl) (fun W hW => by (obtain ⟨z0, z1, z2, z3, z4⟩ := hW; go_simp; try with_reducible rfl)) (fun K hK => ?_); go_simp; refine hK _ ?_; clear hK K))
  refine wpPlanZ_serial (by rfl) (by rfl) (fun K hK => ?_)
  go_simp
  refine (hcall _).mono ?_
  rintro e w' ⟨rfl, rfl⟩
  refine hK _ _ (fun _ => ⟨by simpa using k0, by simpa using k2, by simpa using k3, by simpa using xa, by simpa using xb⟩) ?_
  clear hK K hcall
  repeat (first | (refine wpPlanZ_free (by rfl) (by rfl) (fun W => by (go_simp; try with_reducible rfl)) (fun K hK => ?_); go_simp; refine hK _ ?_; clear hK K) | (refine wpPlanZ_skip (by rfl) (by rfl) (fun K hK => ?_); go_simp; refine hK _ ?_; clear hK K) | (refine wpPlanZ_quiet (by rfl) (by rfl) (fun W hW => by (obtain ⟨z0, z1, z2, z3, z4⟩ := hW; go_simp; try with_reducible rfl)) (fun K hK => ?_); go_simp; refine hK _ ?_; clear hK K))
  refine wpPlanZ_nil ?_
  go_wp2
  go_end0
  exact ⟨rfl, G0.drew, hB0.out.drew⟩
set_option maxRecDepth 100000 in
set_option maxHeartbeats 4000000 in
theorem divide_18 (G : MAt w base mb sb X p vi) (d a b : Nat) (hd : d < 64) (ha : a < 64) (hb : b < 64) (i t : Int) (h0 : X b ≠ 0) :
    Calls Tryd.prog 37 #[.pointer (some ⟨mb, 0, none⟩), .agg #[.string ⟨#[114, 101, 109]⟩, .int .i64 d, .int .i64 a, .int .i64 b, .int .u32 i, .int .i64 t]] w fun e w' => e = .returned (.tuple #[]) ∧ MAt w' base mb sb (setX X d (rst (X a) (X b) true)) p vi ∧ Kx w w' mb vi := by
  have O := OAt.new w ⟨#[114, 101, 109]⟩ d a b i t
  have G0 := G.opened (.cells #[.string ⟨#[114, 101, 109]⟩, .int .i64 d, .int .i64 a, .int .i64 b, .int .u32 i, .int .i64 t] 53)
  have hB0 : Hid (Kx w (w.alloc (.cells #[.string ⟨#[114, 101, 109]⟩, .int .i64 d, .int .i64 a, .int .i64 b, .int .u32 i, .int .i64 t] 53)) mb vi) := Kx.alloc _ _ _ _
  have hd' : (d : Int) < 64 := by omega
  have ha' : (a : Int) < 64 := by omega
  have hb' : (b : Int) < 64 := by omega
  obtain ⟨xa0, xa1⟩ := G.xb a
  obtain ⟨xb0, xb1⟩ := G.xb b
  have hcall := fun W => div_any (X a) (X b) true xa0 xa1 (by omega) xb1 W
  have hv : u32 (rst (X a) (X b) true) := rst_bd _ _ _
  generalize rst (X a) (X b) true = qv at *
  go_enter Tryd.func37, Tryd.ntmps37
  go_upto_region 1 with fail
  have hnb : w.heap.size ≠ mb := by have := G.lt; omega
  clear G
  generalize w.alloc (.cells #[.string ⟨#[114, 101, 109]⟩, .int .i64 d, .int .i64 a, .int .i64 b, .int .u32 i, .int .i64 t] 53) = V at *
  have k0 := O.c0
  have k2 := O.c2
  have k3 := O.c3
  have xa := G0.x a ha
  have xb := G0.x b hb
  refine wp_region_phase 30 [(0, 0), (1, 0), (2, 1), (3, 0), (4, 0), (5, 0), (6, 1), (7, 0), (8, 0), (9, 1), (10, 0), (11, 0), (12, 0), (13, 1), (14, 0), (15, 1), (16, 0), (17, 0), (18, 0), (19, 1), (20, 0), (21, 0), (22, 2), (23, 0), (24, 0), (25, 0), (26, 0), (27, 0), (28, 0), (29, 0)] (fun W => W.cell? ⟨w.heap.size, 0, none⟩ = some (.string ⟨#[114, 101, 109]⟩) ∧ W.cell? ⟨w.heap.size, 2, none⟩ = some (.int .i64 a) ∧ W.cell? ⟨w.heap.size, 3, none⟩ = some (.int .i64 b) ∧ W.cell? ⟨mb, a, none⟩ = some (.int .u32 (X a)) ∧ W.cell? ⟨mb, b, none⟩ = some (.int .u32 (X b))) (by kernel_rfl) (by kernel_rfl) (fun _ _ _ d _ h => by cases d <;> exact h) ⟨by simpa using k0, by simpa using k2, by simpa using k3, by simpa using xa, by simpa using xb⟩ ?_
  repeat (first | (refine wpPlanZ_free (by rfl) (by rfl) (fun W => by (go_simp; try with_reducible rfl)) (fun K hK => ?_); go_simp; refine hK _ ?_; clear hK K) | (refine wpPlanZ_skip (by rfl) (by rfl) (fun K hK => ?_); go_simp; refine hK _ ?_; clear hK K) | (refine wpPlanZ_quiet (by rfl) (by rfl) (fun W hW => by (obtain ⟨z0, z1, z2, z3, z4⟩ := hW; go_simp; try with_reducible rfl)) (fun K hK => ?_); go_simp; refine hK _ ?_; clear hK K))
  refine wpPlanZ_serial (by rfl) (by rfl) (fun K hK => ?_)
  go_simp
  refine (hcall _).mono ?_
  rintro e w' ⟨rfl, rfl⟩
  refine hK _ _ (fun _ => ⟨by simpa using k0, by simpa using k2, by simpa using k3, by simpa using xa, by simpa using xb⟩) ?_
  clear hK K hcall
  repeat (first | (refine wpPlanZ_free (by rfl) (by rfl) (fun W => by (go_simp; try with_reducible rfl)) (fun K hK => ?_); go_simp; refine hK _ ?_; clear hK K) | (refine wpPlanZ_skip (by rfl) (by rfl) (fun K hK => ?_); go_simp; refine hK _ ?_; clear hK K) | (refine wpPlanZ_quiet (by rfl) (by rfl) (fun W hW => by (obtain ⟨z0, z1, z2, z3, z4⟩ := hW; go_simp; try with_reducible rfl)) (fun K hK => ?_); go_simp; refine hK _ ?_; clear hK K))
  refine wpPlanZ_nil ?_
  have k1 := O.c1
  have xd := G0.x d hd
  have fd := G0.fz d
  go_upto_region 2 with fail
  refine wp_region_phase 7 [(0, 0), (1, 0), (2, 1), (3, 0), (4, 0), (5, 0), (6, 0), (7, 2)] (fun W => W.cell? ⟨w.heap.size, 1, none⟩ = some (.int .i64 d)) (by kernel_rfl) (by kernel_rfl) (fun _ _ _ d _ h => by cases d <;> exact h) (by simpa using k1) ?_
  repeat (first | (refine wpPlanZ_free (by rfl) (by rfl) (fun W => by (go_simp; try with_reducible rfl)) (fun K hK => ?_); go_simp; refine hK _ ?_; clear hK K) | (refine wpPlanZ_skip (by rfl) (by rfl) (fun K hK => ?_); go_simp; refine hK _ ?_; clear hK K) | (refine wpPlanZ_quiet (by rfl) (by rfl) (fun W hW => by (have z0 := hW; go_simp; try with_reducible rfl)) (fun K hK => ?_); go_simp; refine hK _ ?_; clear hK K))
  refine wpPlanZ_serial (by rfl) (by rfl) (fun K hK => ?_)
  go_simp
  refine hK _ _ (fun h => absurd h (by decide)) ?_
  clear hK K
  refine wpPlanZ_nil ?_
  go_wp2
  go_end0
  exact ⟨rfl, (G0.put d hd _ hv).drew.drew.drew, (hB0.out.setCell d _).drew.drew.drew⟩
set_option maxRecDepth 100000 in
set_option maxHeartbeats 4000000 in
theorem do_18 (G : MAt w base mb sb X p vi) (d a b : Nat) (i t : Int) (Xn : Nat → Int) (hr : ∀ W, MAt W base mb sb X p vi → Calls Tryd.prog 37 #[.pointer (some ⟨mb, 0, none⟩), .agg #[.string ⟨#[114, 101, 109]⟩, .int .i64 d, .int .i64 a, .int .i64 b, .int .u32 i, .int .i64 t]] W fun e w' => e = .returned (.tuple #[]) ∧ MAt w' base mb sb Xn p vi ∧ Kx W w' mb vi) :
    Calls Tryd.prog 26 #[.pointer (some ⟨mb, 0, none⟩), .agg #[.string ⟨#[114, 101, 109]⟩, .int .i64 d, .int .i64 a, .int .i64 b, .int .u32 i, .int .i64 t]] w fun e w' => e = .returned (.bool true) ∧ MAt w' base mb sb Xn p vi ∧ Kx w w' mb vi := by
  have O := OAt.new w ⟨#[114, 101, 109]⟩ d a b i t
  have G0 := G.opened (.cells #[.string ⟨#[114, 101, 109]⟩, .int .i64 d, .int .i64 a, .int .i64 b, .int .u32 i, .int .i64 t] 53)
  have hB0 : Hid (Kx w (w.alloc (.cells #[.string ⟨#[114, 101, 109]⟩, .int .i64 d, .int .i64 a, .int .i64 b, .int .u32 i, .int .i64 t] 53)) mb vi) := Kx.alloc _ _ _ _
  have hcall := hr _ G0
  clear hr G O
  go_enter Tryd.func26, Tryd.ntmps26
  go_wp2_with fail
  refine hcall.mono ?_
  rintro e w2 ⟨rfl, G2, hb2⟩
  go_wp2
  go_ret
  exact ⟨rfl, G2, hB0.out.trans hb2⟩
set_option maxRecDepth 100000 in
set_option maxHeartbeats 4000000 in
theorem divide_19_0 (G : MAt w base mb sb X p vi) (d a b : Nat) (hd : d < 64) (ha : a < 64) (hb : b < 64) (i t : Int) (h0 : X b = 0) :
    Calls Tryd.prog 37 #[.pointer (some ⟨mb, 0, none⟩), .agg #[.string ⟨#[113, 117, 111, 117]⟩, .int .i64 d, .int .i64 a, .int .i64 b, .int .u32 i, .int .i64 t]] w fun e w' => e = .returned (.tuple #[]) ∧ MAt w' base mb sb X p vi ∧ Kx w w' mb vi := by
  have O := OAt.new w ⟨#[113, 117, 111, 117]⟩ d a b i t
  have G0 := G.opened (.cells #[.string ⟨#[113, 117, 111, 117]⟩, .int .i64 d, .int .i64 a, .int .i64 b, .int .u32 i, .int .i64 t] 53)
  have hB0 : Hid (Kx w (w.alloc (.cells #[.string ⟨#[113, 117, 111, 117]⟩, .int .i64 d, .int .i64 a, .int .i64 b, .int .u32 i, .int .i64 t] 53)) mb vi) := Kx.alloc _ _ _ _
  have hd' : (d : Int) < 64 := by omega
  have ha' : (a : Int) < 64 := by omega
  have hb' : (b : Int) < 64 := by omega
  obtain ⟨xa0, xa1⟩ := G.xb a
  obtain ⟨xb0, xb1⟩ := G.xb b
  have hcall := fun W => div_0 (X a) false W
  have H0 : Hid (X b = 0) := h0
  clear h0 xb0 xb1
  go_enter Tryd.func37, Tryd.ntmps37
  go_upto_region 1 with fail
  have hnb : w.heap.size ≠ mb := by have := G.lt; omega
  clear G
  generalize w.alloc (.cells #[.string ⟨#[113, 117, 111, 117]⟩, .int .i64 d, .int .i64 a, .int .i64 b, .int .u32 i, .int .i64 t] 53) = V at *
  have k0 := O.c0
  have k2 := O.c2
  have k3 := O.c3
  have xa := G0.x a ha
  have xb : V.cell? ⟨mb, b, none⟩ = some (.int .u32 0) := by rw [G0.x b hb, H0.out]
  refine wp_region_phase 30 [(0, 0), (1, 0), (2, 1), (3, 0), (4, 0), (5, 0), (6, 1), (7, 0), (8, 0), (9, 1), (10, 0), (11, 0), (12, 0), (13, 1), (14, 0), (15, 1), (16, 0), (17, 0), (18, 0), (19, 1), (20, 0), (21, 0), (22, 2), (23, 0), (24, 0), (25, 0), (26, 0), (27, 0), (28, 0), (29, 0)] (fun W => W.cell? ⟨w.heap.size, 0, none⟩ = some (.string ⟨#[113, 117, 111, 117]⟩) ∧ W.cell? ⟨w.heap.size, 2, none⟩ = some (.int .i64 a) ∧ W.cell? ⟨w.heap.size, 3, none⟩ = some (.int .i64 b) ∧ W.cell? ⟨mb, a, none⟩ = some (.int .u32 (X a)) ∧ W.cell? ⟨mb, b, none⟩ = some (.int .u32 0)) (by kernel_rfl) (by kernel_rfl) (fun _ _ _ d _ h => by cases d <;> exact h) ⟨by simpa using k0, by simpa using k2, by simpa using k3, by simpa using xa, by simpa using xb⟩ ?_
  repeat (first | (refine wpPlanZ_free (by rfl) (by rfl) (fun W => by (go_simp; try with_reducible rfl)) (fun K hK => ?_); go_simp; refine hK _ ?_; clear hK K) | (refine wpPlanZ_skip (by rfl) (by rfl) (fun K hK => ?_); go_simp; refine hK _ ?_; clear hK K) | (refine wpPlanZ_quiet (by rfl) (by rfl) (fun W hW => by (obtain ⟨z0, z1, z2, z3, z4⟩ := hW; go_simp; try with_reducible rfl)) (fun K hK => ?_); go_simp; refine hK _ ?_; clear hK K))
  refine wpPlanZ_serial (by rfl) (by rfl) (fun K hK => ?_)
  go_simp
  refine (hcall _).mono ?_
  rintro e w' ⟨rfl, rfl⟩
  refine hK _ _ (fun _ => ⟨by simpa using k0, by simpa using k2, by simpa using k3, by simpa using xa, by simpa using xb⟩) ?_
  clear hK K hcall
  repeat (first | (refine wpPlanZ_free (by rfl) (by rfl) (fun W => by (go_simp; try with_reducible rfl)) (fun K hK => ?_); go_simp; refine hK _ ?_; clear hK K) | (refine wpPlanZ_skip (by rfl) (by rfl) (fun K hK => ?_); go_simp; refine hK _ ?_; clear hK K) | (refine wpPlanZ_quiet (by rfl) (by rfl) (fun W hW => by (obtain ⟨z0, z1, z2, z3, z4⟩ := hW; go_simp; try with_reducible rfl)) (fun K hK => ?_); go_simp; refine hK _ ?_; clear hK K))
  refine wpPlanZ_nil ?_
  go_wp2
  go_end0
  exact ⟨rfl, G0.drew, hB0.out.drew⟩
set_option maxRecDepth 100000 in
set_option maxHeartbeats 4000000 in
theorem divide_19 (G : MAt w base mb sb X p vi) (d a b : Nat) (hd : d < 64) (ha : a < 64) (hb : b < 64) (i t : Int) (h0 : X b ≠ 0) :
    Calls Tryd.prog 37 #[.pointer (some ⟨mb, 0, none⟩), .agg #[.string ⟨#[113, 117, 111, 117]⟩, .int .i64 d, .int .i64 a, .int .i64 b, .int .u32 i, .int .i64 t]] w fun e w' => e = .returned (.tuple #[]) ∧ MAt w' base mb sb (setX X d (quo (X a) (X b) false)) p vi ∧ Kx w w' mb vi := by
  have O := OAt.new w ⟨#[113, 117, 111, 117]⟩ d a b i t
  have G0 := G.opened (.cells #[.string ⟨#[113, 117, 111, 117]⟩, .int .i64 d, .int .i64 a, .int .i64 b, .int .u32 i, .int .i64 t] 53)
  have hB0 : Hid (Kx w (w.alloc (.cells #[.string ⟨#[113, 117, 111, 117]⟩, .int .i64 d, .int .i64 a, .int .i64 b, .int .u32 i, .int .i64 t] 53)) mb vi) := Kx.alloc _ _ _ _
  have hd' : (d : Int) < 64 := by omega
  have ha' : (a : Int) < 64 := by omega
  have hb' : (b : Int) < 64 := by omega
  obtain ⟨xa0, xa1⟩ := G.xb a
  obtain ⟨xb0, xb1⟩ := G.xb b
  have hcall := fun W => div_any (X a) (X b) false xa0 xa1 (by omega) xb1 W
  have hv : u32 (quo (X a) (X b) false) := quo_bd _ _ _
  generalize quo (X a) (X b) false = qv at *
  go_enter Tryd.func37, Tryd.ntmps37
  go_upto_region 1 with fail
  have hnb : w.heap.size ≠ mb := by have := G.lt; omega
  clear G
  generalize w.alloc (.cells #[.string ⟨#[113, 117, 111, 117]⟩, .int .i64 d, .int .i64 a, .int .i64 b, .int .u32 i, .int .i64 t] 53) = V at *
  have k0 := O.c0
  have k2 := O.c2
  have k3 := O.c3
  have xa := G0.x a ha
  have xb := G0.x b hb
  refine wp_region_phase 30 [(0, 0), (1, 0), (2, 1), (3, 0), (4, 0), (5, 0), (6, 1), (7, 0), (8, 0), (9, 1), (10, 0), (11, 0), (12, 0), (13, 1), (14, 0), (15, 1), (16, 0), (17, 0), (18, 0), (19, 1), (20, 0), (21, 0), (22, 2), (23, 0), (24, 0), (25, 0), (26, 0), (27, 0), (28, 0), (29, 0)] (fun W => W.cell? ⟨w.heap.size, 0, none⟩ = some (.string ⟨#[113, 117, 111, 117]⟩) ∧ W.cell? ⟨w.heap.size, 2, none⟩ = some (.int .i64 a) ∧ W.cell? ⟨w.heap.size, 3, none⟩ = some (.int .i64 b) ∧ W.cell? ⟨mb, a, none⟩ = some (.int .u32 (X a)) ∧ W.cell? ⟨mb, b, none⟩ = some (.int .u32 (X b))) (by kernel_rfl) (by kernel_rfl) (fun _ _ _ d _ h => by cases d <;> exact h) ⟨by simpa using k0, by simpa using k2, by simpa using k3, by simpa using xa, by simpa using xb⟩ ?_
  repeat (first | (refine wpPlanZ_free (by rfl) (by rfl) (fun W => by (go_simp; try with_reducible rfl)) (fun K hK => ?_); go_simp; refine hK _ ?_; clear hK K) | (refine wpPlanZ_skip (by rfl) (by rfl) (fun K hK => ?_); go_simp; refine hK _ ?_; clear hK K) | (refine wpPlanZ_quiet (by rfl) (by rfl) (fun W hW => by (obtain ⟨z0, z1, z2, z3, z4⟩ := hW; go_simp; try with_reducible rfl)) (fun K hK => ?_); go_simp; refine hK _ ?_; clear hK K))
  refine wpPlanZ_serial (by rfl) (by rfl) (fun K hK => ?_)
  go_simp
  refine (hcall _).mono ?_
  rintro e w' ⟨rfl, rfl⟩
  refine hK _ _ (fun _ => ⟨by simpa using k0, by simpa using k2, by simpa using k3, by simpa using xa, by simpa using xb⟩) ?_
  clear hK K hcall
  repeat (first | (refine wpPlanZ_free (by rfl) (by rfl) (fun W => by (go_simp; try with_reducible rfl)) (fun K hK => ?_); go_simp; refine hK _ ?_; clear hK K) | (refine wpPlanZ_skip (by rfl) (by rfl) (fun K hK => ?_); go_simp; refine hK _ ?_; clear hK K) | (refine wpPlanZ_quiet (by rfl) (by rfl) (fun W hW => by (obtain ⟨z0, z1, z2, z3, z4⟩ := hW; go_simp; try with_reducible rfl)) (fun K hK => ?_); go_simp; refine hK _ ?_; clear hK K))
  refine wpPlanZ_nil ?_
  have k1 := O.c1
  have xd := G0.x d hd
  have fd := G0.fz d
  go_upto_region 5 with fail
  refine wp_region_phase 7 [(0, 0), (1, 0), (2, 1), (3, 0), (4, 0), (5, 0), (6, 0), (7, 2)] (fun W => W.cell? ⟨w.heap.size, 1, none⟩ = some (.int .i64 d)) (by kernel_rfl) (by kernel_rfl) (fun _ _ _ d _ h => by cases d <;> exact h) (by simpa using k1) ?_
  repeat (first | (refine wpPlanZ_free (by rfl) (by rfl) (fun W => by (go_simp; try with_reducible rfl)) (fun K hK => ?_); go_simp; refine hK _ ?_; clear hK K) | (refine wpPlanZ_skip (by rfl) (by rfl) (fun K hK => ?_); go_simp; refine hK _ ?_; clear hK K) | (refine wpPlanZ_quiet (by rfl) (by rfl) (fun W hW => by (have z0 := hW; go_simp; try with_reducible rfl)) (fun K hK => ?_); go_simp; refine hK _ ?_; clear hK K))
  refine wpPlanZ_serial (by rfl) (by rfl) (fun K hK => ?_)
  go_simp
  refine hK _ _ (fun h => absurd h (by decide)) ?_
  clear hK K
  refine wpPlanZ_nil ?_
  go_wp2
  go_end0
  exact ⟨rfl, (G0.put d hd _ hv).drew.drew.drew, (hB0.out.setCell d _).drew.drew.drew⟩
set_option maxRecDepth 100000 in
set_option maxHeartbeats 4000000 in
theorem do_19 (G : MAt w base mb sb X p vi) (d a b : Nat) (i t : Int) (Xn : Nat → Int) (hr : ∀ W, MAt W base mb sb X p vi → Calls Tryd.prog 37 #[.pointer (some ⟨mb, 0, none⟩), .agg #[.string ⟨#[113, 117, 111, 117]⟩, .int .i64 d, .int .i64 a, .int .i64 b, .int .u32 i, .int .i64 t]] W fun e w' => e = .returned (.tuple #[]) ∧ MAt w' base mb sb Xn p vi ∧ Kx W w' mb vi) :
    Calls Tryd.prog 26 #[.pointer (some ⟨mb, 0, none⟩), .agg #[.string ⟨#[113, 117, 111, 117]⟩, .int .i64 d, .int .i64 a, .int .i64 b, .int .u32 i, .int .i64 t]] w fun e w' => e = .returned (.bool true) ∧ MAt w' base mb sb Xn p vi ∧ Kx w w' mb vi := by
  have O := OAt.new w ⟨#[113, 117, 111, 117]⟩ d a b i t
  have G0 := G.opened (.cells #[.string ⟨#[113, 117, 111, 117]⟩, .int .i64 d, .int .i64 a, .int .i64 b, .int .u32 i, .int .i64 t] 53)
  have hB0 : Hid (Kx w (w.alloc (.cells #[.string ⟨#[113, 117, 111, 117]⟩, .int .i64 d, .int .i64 a, .int .i64 b, .int .u32 i, .int .i64 t] 53)) mb vi) := Kx.alloc _ _ _ _
  have hcall := hr _ G0
  clear hr G O
  go_enter Tryd.func26, Tryd.ntmps26
  go_wp2_with fail
  refine hcall.mono ?_
  rintro e w2 ⟨rfl, G2, hb2⟩
  go_wp2
  go_ret
  exact ⟨rfl, G2, hB0.out.trans hb2⟩
set_option maxRecDepth 100000 in
set_option maxHeartbeats 4000000 in
theorem divide_20_0 (G : MAt w base mb sb X p vi) (d a b : Nat) (hd : d < 64) (ha : a < 64) (hb : b < 64) (i t : Int) (h0 : X b = 0) :
    Calls Tryd.prog 37 #[.pointer (some ⟨mb, 0, none⟩), .agg #[.string ⟨#[114, 101, 109, 117]⟩, .int .i64 d, .int .i64 a, .int .i64 b, .int .u32 i, .int .i64 t]] w fun e w' => e = .returned (.tuple #[]) ∧ MAt w' base mb sb X p vi ∧ Kx w w' mb vi := by
  have O := OAt.new w ⟨#[114, 101, 109, 117]⟩ d a b i t
  have G0 := G.opened (.cells #[.string ⟨#[114, 101, 109, 117]⟩, .int .i64 d, .int .i64 a, .int .i64 b, .int .u32 i, .int .i64 t] 53)
  have hB0 : Hid (Kx w (w.alloc (.cells #[.string ⟨#[114, 101, 109, 117]⟩, .int .i64 d, .int .i64 a, .int .i64 b, .int .u32 i, .int .i64 t] 53)) mb vi) := Kx.alloc _ _ _ _
  have hd' : (d : Int) < 64 := by omega
  have ha' : (a : Int) < 64 := by omega
  have hb' : (b : Int) < 64 := by omega
  obtain ⟨xa0, xa1⟩ := G.xb a
  obtain ⟨xb0, xb1⟩ := G.xb b
  have hcall := fun W => div_0 (X a) false W
  have H0 : Hid (X b = 0) := h0
  clear h0 xb0 xb1
  go_enter Tryd.func37, Tryd.ntmps37
  go_upto_region 1 with fail
  have hnb : w.heap.size ≠ mb := by have := G.lt; omega
  clear G
  generalize w.alloc (.cells #[.string ⟨#[114, 101, 109, 117]⟩, .int .i64 d, .int .i64 a, .int .i64 b, .int .u32 i, .int .i64 t] 53) = V at *
  have k0 := O.c0
  have k2 := O.c2
  have k3 := O.c3
  have xa := G0.x a ha
  have xb : V.cell? ⟨mb, b, none⟩ = some (.int .u32 0) := by rw [G0.x b hb, H0.out]
  refine wp_region_phase 30 [(0, 0), (1, 0), (2, 1), (3, 0), (4, 0), (5, 0), (6, 1), (7, 0), (8, 0), (9, 1), (10, 0), (11, 0), (12, 0), (13, 1), (14, 0), (15, 1), (16, 0), (17, 0), (18, 0), (19, 1), (20, 0), (21, 0), (22, 2), (23, 0), (24, 0), (25, 0), (26, 0), (27, 0), (28, 0), (29, 0)] (fun W => W.cell? ⟨w.heap.size, 0, none⟩ = some (.string ⟨#[114, 101, 109, 117]⟩) ∧ W.cell? ⟨w.heap.size, 2, none⟩ = some (.int .i64 a) ∧ W.cell? ⟨w.heap.size, 3, none⟩ = some (.int .i64 b) ∧ W.cell? ⟨mb, a, none⟩ = some (.int .u32 (X a)) ∧ W.cell? ⟨mb, b, none⟩ = some (.int .u32 0)) (by kernel_rfl) (by kernel_rfl) (fun _ _ _ d _ h => by cases d <;> exact h) ⟨by simpa using k0, by simpa using k2, by simpa using k3, by simpa using xa, by simpa using xb⟩ ?_
  repeat (first | (refine wpPlanZ_free (by rfl) (by rfl) (fun W => by (go_simp; try with_reducible rfl)) (fun K hK => ?_); go_simp; refine hK _ ?_; clear hK K) | (refine wpPlanZ_skip (by rfl) (by rfl) (fun K hK => ?_); go_simp; refine hK _ ?_; clear hK K) | (refine wpPlanZ_quiet (by rfl) (by rfl) (fun W hW => by (obtain ⟨z0, z1, z2, z3, z4⟩ := hW; go_simp; try with_reducible rfl)) (fun K hK => ?_); go_simp; refine hK _ ?_; clear hK K))
  refine wpPlanZ_serial (by rfl) (by rfl) (fun K hK => ?_)
  go_simp
  refine (hcall _).mono ?_
  rintro e w' ⟨rfl, rfl⟩
  refine hK _ _ (fun _ => ⟨by simpa using k0, by simpa using k2, by simpa using k3, by simpa using xa, by simpa using xb⟩) ?_
  clear hK K hcall
  repeat (first | (refine wpPlanZ_free (by rfl) (by rfl) (fun W => by (go_simp; try with_reducible rfl)) (fun K hK => ?_); go_simp; refine hK _ ?_; clear hK K) | (refine wpPlanZ_skip (by rfl) (by rfl) (fun K hK => ?_); go_simp; refine hK _ ?_; clear hK K) | (refine wpPlanZ_quiet (by rfl) (by rfl) (fun W hW => by (obtain ⟨z0, z1, z2, z3, z4⟩ := hW; go_simp; try with_reducible rfl)) (fun K hK => ?_); go_simp; refine hK _ ?_; clear hK K))
  refine wpPlanZ_nil ?_
  go_wp2
  go_end0
  exact ⟨rfl, G0.drew, hB0.out.drew⟩
set_option maxRecDepth 100000 in
set_option maxHeartbeats 4000000 in
theorem divide_20 (G : MAt w base mb sb X p vi) (d a b : Nat) (hd : d < 64) (ha : a < 64) (hb : b < 64) (i t : Int) (h0 : X b ≠ 0) :
    Calls Tryd.prog 37 #[.pointer (some ⟨mb, 0, none⟩), .agg #[.string ⟨#[114, 101, 109, 117]⟩, .int .i64 d, .int .i64 a, .int .i64 b, .int .u32 i, .int .i64 t]] w fun e w' => e = .returned (.tuple #[]) ∧ MAt w' base mb sb (setX X d (rst (X a) (X b) false)) p vi ∧ Kx w w' mb vi := by
  have O := OAt.new w ⟨#[114, 101, 109, 117]⟩ d a b i t
  have G0 := G.opened (.cells #[.string ⟨#[114, 101, 109, 117]⟩, .int .i64 d, .int .i64 a, .int .i64 b, .int .u32 i, .int .i64 t] 53)
  have hB0 : Hid (Kx w (w.alloc (.cells #[.string ⟨#[114, 101, 109, 117]⟩, .int .i64 d, .int .i64 a, .int .i64 b, .int .u32 i, .int .i64 t] 53)) mb vi) := Kx.alloc _ _ _ _
  have hd' : (d : Int) < 64 := by omega
  have ha' : (a : Int) < 64 := by omega
  have hb' : (b : Int) < 64 := by omega
  obtain ⟨xa0, xa1⟩ := G.xb a
  obtain ⟨xb0, xb1⟩ := G.xb b
  have hcall := fun W => div_any (X a) (X b) false xa0 xa1 (by omega) xb1 W
  have hv : u32 (rst (X a) (X b) false) := rst_bd _ _ _
  generalize rst (X a) (X b) false = qv at *
  go_enter Tryd.func37, Tryd.ntmps37
  go_upto_region 1 with fail
  have hnb : w.heap.size ≠ mb := by have := G.lt; omega
  clear G
  generalize w.alloc (.cells #[.string ⟨#[114, 101, 109, 117]⟩, .int .i64 d, .int .i64 a, .int .i64 b, .int .u32 i, .int .i64 t] 53) = V at *
  have k0 := O.c0
  have k2 := O.c2
  have k3 := O.c3
  have xa := G0.x a ha
  have xb := G0.x b hb
  refine wp_region_phase 30 [(0, 0), (1, 0), (2, 1), (3, 0), (4, 0), (5, 0), (6, 1), (7, 0), (8, 0), (9, 1), (10, 0), (11, 0), (12, 0), (13, 1), (14, 0), (15, 1), (16, 0), (17, 0), (18, 0), (19, 1), (20, 0), (21, 0), (22, 2), (23, 0), (24, 0), (25, 0), (26, 0), (27, 0), (28, 0), (29, 0)] (fun W => W.cell? ⟨w.heap.size, 0, none⟩ = some (.string ⟨#[114, 101, 109, 117]⟩) ∧ W.cell? ⟨w.heap.size, 2, none⟩ = some (.int .i64 a) ∧ W.cell? ⟨w.heap.size, 3, none⟩ = some (.int .i64 b) ∧ W.cell? ⟨mb, a, none⟩ = some (.int .u32 (X a)) ∧ W.cell? ⟨mb, b, none⟩ = some (.int .u32 (X b))) (by kernel_rfl) (by kernel_rfl) (fun _ _ _ d _ h => by cases d <;> exact h) ⟨by simpa using k0, by simpa using k2, by simpa using k3, by simpa using xa, by simpa using xb⟩ ?_
  repeat (first | (refine wpPlanZ_free (by rfl) (by rfl) (fun W => by (go_simp; try with_reducible rfl)) (fun K hK => ?_); go_simp; refine hK _ ?_; clear hK K) | (refine wpPlanZ_skip (by rfl) (by rfl) (fun K hK => ?_); go_simp; refine hK _ ?_; clear hK K) | (refine wpPlanZ_quiet (by rfl) (by rfl) (fun W hW => by (obtain ⟨z0, z1, z2, z3, z4⟩ := hW; go_simp; try with_reducible rfl)) (fun K hK => ?_); go_simp; refine hK _ ?_; clear hK K))
  refine wpPlanZ_serial (by rfl) (by rfl) (fun K hK => ?_)
  go_simp
  refine (hcall _).mono ?_
  rintro e w' ⟨rfl, rfl⟩
  refine hK _ _ (fun _ => ⟨by simpa using k0, by simpa using k2, by simpa using k3, by simpa using xa, by simpa using xb⟩) ?_
  clear hK K hcall
  repeat (first | (refine wpPlanZ_free (by rfl) (by rfl) (fun W => by (go_simp; try with_reducible rfl)) (fun K hK => ?_); go_simp; refine hK _ ?_; clear hK K) | (refine wpPlanZ_skip (by rfl) (by rfl) (fun K hK => ?_); go_simp; refine hK _ ?_; clear hK K) | (refine wpPlanZ_quiet (by rfl) (by rfl) (fun W hW => by (obtain ⟨z0, z1, z2, z3, z4⟩ := hW; go_simp; try with_reducible rfl)) (fun K hK => ?_); go_simp; refine hK _ ?_; clear hK K))
  refine wpPlanZ_nil ?_
  have k1 := O.c1
  have xd := G0.x d hd
  have fd := G0.fz d
  go_upto_region 2 with fail
  refine wp_region_phase 7 [(0, 0), (1, 0), (2, 1), (3, 0), (4, 0), (5, 0), (6, 0), (7, 2)] (fun W => W.cell? ⟨w.heap.size, 1, none⟩ = some (.int .i64 d)) (by kernel_rfl) (by kernel_rfl) (fun _ _ _ d _ h => by cases d <;> exact h) (by simpa using k1) ?_
  repeat (first | (refine wpPlanZ_free (by rfl) (by rfl) (fun W => by (go_simp; try with_reducible rfl)) (fun K hK => ?_); go_simp; refine hK _ ?_; clear hK K) | (refine wpPlanZ_skip (by rfl) (by rfl) (fun K hK => ?_); go_simp; refine hK _ ?_; clear hK K) | (refine wpPlanZ_quiet (by rfl) (by rfl) (fun W hW => by (have z0 := hW; go_simp; try with_reducible rfl)) (fun K hK => ?_); go_simp; refine hK _ ?_; clear hK K))
  refine wpPlanZ_serial (by rfl) (by rfl) (fun K hK => ?_)
  go_simp
  refine hK _ _ (fun h => absurd h (by decide)) ?_
  clear hK K
  refine wpPlanZ_nil ?_
  go_wp2
  go_end0
  exact ⟨rfl, (G0.put d hd _ hv).drew.drew.drew, (hB0.out.setCell d _).drew.drew.drew⟩
set_option maxRecDepth 100000 in
set_option maxHeartbeats 4000000 in
theorem do_20 (G : MAt w base mb sb X p vi) (d a b : Nat) (i t : Int) (Xn : Nat → Int) (hr : ∀ W, MAt W base mb sb X p vi → Calls Tryd.prog 37 #[.pointer (some ⟨mb, 0, none⟩), .agg #[.string ⟨#[114, 101, 109, 117]⟩, .int .i64 d, .int .i64 a, .int .i64 b, .int .u32 i, .int .i64 t]] W fun e w' => e = .returned (.tuple #[]) ∧ MAt w' base mb sb Xn p vi ∧ Kx W w' mb vi) :
    Calls Tryd.prog 26 #[.pointer (some ⟨mb, 0, none⟩), .agg #[.string ⟨#[114, 101, 109, 117]⟩, .int .i64 d, .int .i64 a, .int .i64 b, .int .u32 i, .int .i64 t]] w fun e w' => e = .returned (.bool true) ∧ MAt w' base mb sb Xn p vi ∧ Kx w w' mb vi := by
  have O := OAt.new w ⟨#[114, 101, 109, 117]⟩ d a b i t
  have G0 := G.opened (.cells #[.string ⟨#[114, 101, 109, 117]⟩, .int .i64 d, .int .i64 a, .int .i64 b, .int .u32 i, .int .i64 t] 53)
  have hB0 : Hid (Kx w (w.alloc (.cells #[.string ⟨#[114, 101, 109, 117]⟩, .int .i64 d, .int .i64 a, .int .i64 b, .int .u32 i, .int .i64 t] 53)) mb vi) := Kx.alloc _ _ _ _
  have hcall := hr _ G0
  clear hr G O
  go_enter Tryd.func26, Tryd.ntmps26
  go_wp2_with fail
  refine hcall.mono ?_
  rintro e w2 ⟨rfl, G2, hb2⟩
  go_wp2
  go_ret
  exact ⟨rfl, G2, hB0.out.trans hb2⟩
end
end Go.Proofs.YtjjlbpenagobiaaDoor
