/-
  Package ir: an op that goes on: stores, copies, sums, quotients.
-/
import Derived.Test.YtjjlbpenagobiaaDoorIrDo
namespace Go.Proofs.YtjjlbpenagobiaaDoor
open Go.RowKit Go.Maps
open Num
set_option linter.unusedVariables false
section
variable {w : World} {base mb sb bp bw bh N : Nat} {X : Nat → Int} {p : List Pq} {vi : Value} {m : Nat → Int} {wt ht : Int → Bool}
set_option maxRecDepth 100000 in
set_option maxHeartbeats 4000000 in
theorem do_23_no (pe : Nat → Addr) (E : Eg pe w) (G : MAt w base mb sb X p vi) (d a : Nat) (hd : d < 64) (ha : a < 64) (b : Int) (hb : b = 1 ∨ b = 2 ∨ b = 4 ∨ b = -1 ∨ b = -2) (i : Int) (hi : u32 i) (t : Int) (sz : Int) (sgn : Bool) (hsz : Hid (sz = if b < 0 then -b else b)) (hsg : Hid (sgn = decide (b < 0))) (hc : chk (lo (X a + i)) sz ≠ 0) :
    Calls Tryd.prog 26 #[.pointer (some ⟨mb, 0, none⟩), .agg #[.string ⟨#[108, 111, 97, 100]⟩, .int .i64 d, .int .i64 a, .int .i64 b, .int .u32 i, .int .i64 t]] w fun e w' => e = .returned (.bool false) ∧ Kx w w' mb vi := by
  have O := OAt.new w ⟨#[108, 111, 97, 100]⟩ d a b i t
  have G0 := G.opened (.cells #[.string ⟨#[108, 111, 97, 100]⟩, .int .i64 d, .int .i64 a, .int .i64 b, .int .u32 i, .int .i64 t] 53)
  have hB0 : Hid (Kx w (w.alloc (.cells #[.string ⟨#[108, 111, 97, 100]⟩, .int .i64 d, .int .i64 a, .int .i64 b, .int .u32 i, .int .i64 t] 53)) mb vi) := Kx.alloc _ _ _ _
  have ha' : (a : Int) < 64 := by omega
  have hd' : (d : Int) < 64 := by omega
  obtain ⟨xa0, xa1⟩ := G.xb a
  obtain ⟨i0, i1⟩ := hi
  have hb1 : -4 ≤ b ∧ b ≤ 4 := by omega
  obtain ⟨hb2, hb3⟩ := hb1
  have hs4 : 0 ≤ sz ∧ sz ≤ 4 := by rw [hsz.out]; rcases hb with rfl | rfl | rfl | rfl | rfl <;> decide
  have E0 := E.stays (((Below.refl _ _).alloc (Nat.le_refl _) (.cells #[.string ⟨#[108, 111, 97, 100]⟩, .int .i64 d, .int .i64 a, .int .i64 b, .int .u32 i, .int .i64 t] 53)).trans (below_drew (Below.refl _ _)))
  have hcall := gload_no pe E0 G0.drew (lo (X a + i)) sz sgn (lo_bd _).1 (lo_bd _).2 (by omega) (by omega) hc
  clear E0 E hc
  go_enter Tryd.func26, Tryd.ntmps26
  go_upto_region 10 with fail
  have hnb : w.heap.size ≠ mb := by have := G.lt; omega
  clear G
  generalize w.alloc (.cells #[.string ⟨#[108, 111, 97, 100]⟩, .int .i64 d, .int .i64 a, .int .i64 b, .int .u32 i, .int .i64 t] 53) = V at *
  have k2 := O.c2
  have k3 := O.c3
  have k4 := O.c4
  have xa := G0.x a ha
  refine wp_region_phase 28 [(0, 0), (1, 0), (2, 0), (3, 0), (4, 0), (5, 1), (6, 0), (7, 0), (8, 0), (9, 1), (10, 0), (11, 1), (12, 0), (13, 0), (14, 1), (15, 0), (16, 1), (17, 0), (18, 0), (19, 0), (20, 1), (21, 0), (22, 2), (23, 0), (24, 0), (25, 0), (26, 0), (27, 0)] (fun W => W.cell? ⟨w.heap.size, 2, none⟩ = some (.int .i64 a) ∧ W.cell? ⟨w.heap.size, 3, none⟩ = some (.int .i64 b) ∧ W.cell? ⟨w.heap.size, 4, none⟩ = some (.int .u32 i) ∧ W.cell? ⟨mb, a, none⟩ = some (.int .u32 (X a))) (by kernel_rfl) (by kernel_rfl) (fun _ _ _ d _ h => by cases d <;> exact h) ⟨by simpa using k2, by simpa using k3, by simpa using k4, by simpa using xa⟩ ?_
  repeat (first | (refine wpPlanZ_free (by rfl) (by rfl) (fun W => by (go_simp; try with_reducible rfl)) (fun K hK => ?_); go_simp; refine hK _ ?_; clear hK K) | (refine wpPlanZ_quiet (by rfl) (by rfl) (fun W hW => by (obtain ⟨z0, z1, z2, z3⟩ := hW; go_simp; try with_reducible rfl)) (fun K hK => ?_); go_simp; refine hK _ ?_; clear hK K))
  refine wpPlanZ_serial (by rfl) (by rfl) (fun K hK => ?_)
  go_simp
  rw [show IntKind.u32.wrap (X a + i) = lo (X a + i) from wrap_u32 _, maxw b hb, ← hsz.out, ← hsg.out]
  refine hcall.mono ?_
  rintro e w2 ⟨rfl, hb2⟩
  have G2 := G0.drew.stays hb2
  have c2 : ∀ j, w2.cell? ⟨w.heap.size, j, none⟩ = V.cell? ⟨w.heap.size, j, none⟩ := fun j => hb2.cell (p := ⟨w.heap.size, j, none⟩) (show w.heap.size < V.drew.heap.size from World.block_lt_of_cell? V _ k2)
  have y2 := (c2 2).trans k2
  have y3 := (c2 3).trans k3
  have y4 := (c2 4).trans k4
  have y1 := (c2 1).trans O.c1
  have hB2 : Hid (Kx w w2 mb vi) := hB0.out.drew.below hb2
  refine hK _ _ (fun _ => ⟨y2, y3, y4, G2.x a ha⟩) ?_
  clear hK K hcall hb2 c2 k2 k3 k4 xa O G0 hB0
  repeat (first | (refine wpPlanZ_free (by rfl) (by rfl) (fun W => by (go_simp; try with_reducible rfl)) (fun K hK => ?_); go_simp; refine hK _ ?_; clear hK K) | (refine wpPlanZ_quiet (by rfl) (by rfl) (fun W hW => by (obtain ⟨z0, z1, z2, z3⟩ := hW; go_simp; try with_reducible rfl)) (fun K hK => ?_); go_simp; refine hK _ ?_; clear hK K))
  refine wpPlanZ_nil ?_
  go_upto_region 11 with fail
  have xd := G2.x d hd
  have fd := G2.fz d
  refine wp_region_phase 7 [(0, 0), (1, 0), (2, 1), (3, 0), (4, 0), (5, 0), (6, 0), (7, 2)] (fun W => W.cell? ⟨w.heap.size, 1, none⟩ = some (.int .i64 d)) (by kernel_rfl) (by kernel_rfl) (fun _ _ _ d _ h => by cases d <;> exact h) (by simpa using y1) ?_
  repeat (first | (refine wpPlanZ_free (by rfl) (by rfl) (fun W => by (go_simp; try with_reducible rfl)) (fun K hK => ?_); go_simp; refine hK _ ?_; clear hK K) | (refine wpPlanZ_quiet (by rfl) (by rfl) (fun W hW => by (have z0 := hW; go_simp; try with_reducible rfl)) (fun K hK => ?_); go_simp; refine hK _ ?_; clear hK K))
  refine wpPlanZ_serial (by rfl) (by rfl) (fun K hK => ?_)
  go_simp
  refine hK _ _ (fun h => absurd h (by decide)) ?_
  clear hK K
  refine wpPlanZ_nil ?_
  go_wp2
  go_ret
  exact ⟨rfl, (hB2.out.setCell d _).drew⟩
set_option maxRecDepth 100000 in
set_option maxHeartbeats 4000000 in
theorem do_24 (hp : p.length ≤ 1000) (R : RamIs w sb bp bw bh N m wt ht) (G : MAt w base mb sb X p vi) (a b : Nat) (ha : a < 64) (hb : b < 64) (d : Int) (i : Int) (hi : u32 i) (t : Int) (hc : chk (lo (X a + i)) d = 0) (hw : wt (lo (X a + i) / 256) = false) :
    Calls Tryd.prog 26 #[.pointer (some ⟨mb, 0, none⟩), .agg #[.string ⟨#[115, 116, 111, 114, 101]⟩, .int .i64 d, .int .i64 a, .int .i64 b, .int .u32 i, .int .i64 t]] w fun e w' => e = .returned (.bool true) ∧ (∃ vi', MAt w' base mb sb X (p ++ [⟨⟨lo (X a + i), d, X b⟩, ⟨hc, (lo_bd _).1, (G.xb b).1, (G.xb b).2⟩⟩]) vi' ∧ Moved w vi vi') ∧ Kx w w' mb vi := by
  have O := OAt.new w ⟨#[115, 116, 111, 114, 101]⟩ d a b i t
  have G0 := G.opened (.cells #[.string ⟨#[115, 116, 111, 114, 101]⟩, .int .i64 d, .int .i64 a, .int .i64 b, .int .u32 i, .int .i64 t] 53)
  have hB0 : Hid (Kx w (w.alloc (.cells #[.string ⟨#[115, 116, 111, 114, 101]⟩, .int .i64 d, .int .i64 a, .int .i64 b, .int .u32 i, .int .i64 t] 53)) mb vi) := Kx.alloc _ _ _ _
  have ha' : (a : Int) < 64 := by omega
  have hb' : (b : Int) < 64 := by omega
  obtain ⟨xa0, xa1⟩ := G.xb a
  obtain ⟨xb0, xb1⟩ := G.xb b
  obtain ⟨i0, i1⟩ := hi
  have R0 := (R.grow (World.grownBy_alloc w (.cells #[.string ⟨#[115, 116, 111, 114, 101]⟩, .int .i64 d, .int .i64 a, .int .i64 b, .int .u32 i, .int .i64 t] 53) none)).drew
  have hcall := gstore_ok R0 G0.drew hp (lo (X a + i)) d (X b) (lo_bd _).1 (lo_bd _).2 xb0 xb1 hc hw
  clear R R0
  go_enter Tryd.func26, Tryd.ntmps26
  go_upto_region 14 with fail
  have hnb : w.heap.size ≠ mb := by have := G.lt; omega
  generalize w.alloc (.cells #[.string ⟨#[115, 116, 111, 114, 101]⟩, .int .i64 d, .int .i64 a, .int .i64 b, .int .u32 i, .int .i64 t] 53) = V at *
  have k1 := O.c1
  have k2 := O.c2
  have k3 := O.c3
  have k4 := O.c4
  have xa := G0.x a ha
  have xb := G0.x b hb
  refine wp_region_phase 24 [(0, 0), (1, 0), (2, 0), (3, 0), (4, 0), (5, 1), (6, 0), (7, 0), (8, 0), (9, 1), (10, 0), (11, 1), (12, 0), (13, 0), (14, 1), (15, 0), (16, 0), (17, 1), (18, 0), (19, 0), (20, 0), (21, 1), (22, 2), (23, 0)] (fun W => W.cell? ⟨w.heap.size, 1, none⟩ = some (.int .i64 d) ∧ W.cell? ⟨w.heap.size, 2, none⟩ = some (.int .i64 a) ∧ W.cell? ⟨w.heap.size, 3, none⟩ = some (.int .i64 b) ∧ W.cell? ⟨w.heap.size, 4, none⟩ = some (.int .u32 i) ∧ W.cell? ⟨mb, a, none⟩ = some (.int .u32 (X a)) ∧ W.cell? ⟨mb, b, none⟩ = some (.int .u32 (X b))) (by kernel_rfl) (by kernel_rfl) (fun _ _ _ d _ h => by cases d <;> exact h) ⟨by simpa using k1, by simpa using k2, by simpa using k3, by simpa using k4, by simpa using xa, by simpa using xb⟩ ?_
  repeat (first | (refine wpPlanZ_free (by rfl) (by rfl) (fun W => by (go_simp; try with_reducible rfl)) (fun K hK => ?_); go_simp; refine hK _ ?_; clear hK K) | (refine wpPlanZ_quiet (by rfl) (by rfl) (fun W hW => by (obtain ⟨z0, z1, z2, z3, z4, z5⟩ := hW; go_simp; try with_reducible rfl)) (fun K hK => ?_); go_simp; refine hK _ ?_; clear hK K))
  refine wpPlanZ_serial (by rfl) (by rfl) (fun K hK => ?_)
  go_simp
  rw [show IntKind.u32.wrap (X a + i) = lo (X a + i) from wrap_u32 _]
  refine hcall.mono ?_
  rintro e w2 ⟨rfl, vi2, G2, hm2, hk2⟩
  have hB2 : Hid (Kx w w2 mb vi) := hB0.out.drew.trans hk2
  refine hK _ _ (fun _ => ?_) ?_
  · have hbb : w2.heap[w.heap.size]? = V.drew.heap[w.heap.size]? := hk2.block _ (World.block_lt_of_cell? V _ k1) hnb (fun e => by have := (G.blk _ e).1; omega)
    have c2 : ∀ (j : Nat) (u : Value), V.cell? ⟨w.heap.size, j, none⟩ = some u → w2.cell? ⟨w.heap.size, j, none⟩ = some u := fun j u h => (World.cell?_of_block (a := ⟨w.heap.size, j, none⟩) hbb).trans h
    exact ⟨c2 _ _ k1, c2 _ _ k2, c2 _ _ k3, c2 _ _ k4, G2.x a ha, G2.x b hb⟩
  clear hK K hcall
  repeat (first | (refine wpPlanZ_free (by rfl) (by rfl) (fun W => by (go_simp; try with_reducible rfl)) (fun K hK => ?_); go_simp; refine hK _ ?_; clear hK K) | (refine wpPlanZ_quiet (by rfl) (by rfl) (fun W hW => by (obtain ⟨z0, z1, z2, z3, z4, z5⟩ := hW; go_simp; try with_reducible rfl)) (fun K hK => ?_); go_simp; refine hK _ ?_; clear hK K))
  refine wpPlanZ_nil ?_
  go_wp2
  go_ret
  exact ⟨rfl, ⟨_, G2, fun k hk => (hm2 k hk).imp id (fun h => Nat.le_trans hB0.out.size h)⟩, hB2.out⟩
set_option maxRecDepth 100000 in
set_option maxHeartbeats 4000000 in
theorem do_24_no (pe : Nat → Addr) (E : Eg pe w) (R : RamIs w sb bp bw bh N m wt ht) (G : MAt w base mb sb X p vi) (a b : Nat) (ha : a < 64) (hb : b < 64) (d : Int) (i : Int) (hi : u32 i) (t : Int) (hd0 : -9223372036854775808 ≤ d) (hd1 : d ≤ 9223372036854775807) (hc : ¬ (chk (lo (X a + i)) d = 0 ∧ wt (lo (X a + i) / 256) = false)) :
    Calls Tryd.prog 26 #[.pointer (some ⟨mb, 0, none⟩), .agg #[.string ⟨#[115, 116, 111, 114, 101]⟩, .int .i64 d, .int .i64 a, .int .i64 b, .int .u32 i, .int .i64 t]] w fun e w' => e = .returned (.bool false) ∧ Kx w w' mb vi := by
  have O := OAt.new w ⟨#[115, 116, 111, 114, 101]⟩ d a b i t
  have G0 := G.opened (.cells #[.string ⟨#[115, 116, 111, 114, 101]⟩, .int .i64 d, .int .i64 a, .int .i64 b, .int .u32 i, .int .i64 t] 53)
  have hB0 : Hid (Kx w (w.alloc (.cells #[.string ⟨#[115, 116, 111, 114, 101]⟩, .int .i64 d, .int .i64 a, .int .i64 b, .int .u32 i, .int .i64 t] 53)) mb vi) := Kx.alloc _ _ _ _
  have ha' : (a : Int) < 64 := by omega
  have hb' : (b : Int) < 64 := by omega
  obtain ⟨xa0, xa1⟩ := G.xb a
  obtain ⟨xb0, xb1⟩ := G.xb b
  obtain ⟨i0, i1⟩ := hi
  have R0 := (R.grow (World.grownBy_alloc w (.cells #[.string ⟨#[115, 116, 111, 114, 101]⟩, .int .i64 d, .int .i64 a, .int .i64 b, .int .u32 i, .int .i64 t] 53) none)).drew
  have E0 := E.stays (((Below.refl _ _).alloc (Nat.le_refl _) (.cells #[.string ⟨#[115, 116, 111, 114, 101]⟩, .int .i64 d, .int .i64 a, .int .i64 b, .int .u32 i, .int .i64 t] 53)).trans (below_drew (Below.refl _ _)))
  have hcall := gstore_no pe E0 R0 G0.drew (lo (X a + i)) d (X b) (lo_bd _).1 (lo_bd _).2 hd0 hd1 hc
  clear R R0
  go_enter Tryd.func26, Tryd.ntmps26
  go_upto_region 14 with fail
  have hnb : w.heap.size ≠ mb := by have := G.lt; omega
  generalize w.alloc (.cells #[.string ⟨#[115, 116, 111, 114, 101]⟩, .int .i64 d, .int .i64 a, .int .i64 b, .int .u32 i, .int .i64 t] 53) = V at *
  have k1 := O.c1
  have k2 := O.c2
  have k3 := O.c3
  have k4 := O.c4
  have xa := G0.x a ha
  have xb := G0.x b hb
  refine wp_region_phase 24 [(0, 0), (1, 0), (2, 0), (3, 0), (4, 0), (5, 1), (6, 0), (7, 0), (8, 0), (9, 1), (10, 0), (11, 1), (12, 0), (13, 0), (14, 1), (15, 0), (16, 0), (17, 1), (18, 0), (19, 0), (20, 0), (21, 1), (22, 2), (23, 0)] (fun W => W.cell? ⟨w.heap.size, 1, none⟩ = some (.int .i64 d) ∧ W.cell? ⟨w.heap.size, 2, none⟩ = some (.int .i64 a) ∧ W.cell? ⟨w.heap.size, 3, none⟩ = some (.int .i64 b) ∧ W.cell? ⟨w.heap.size, 4, none⟩ = some (.int .u32 i) ∧ W.cell? ⟨mb, a, none⟩ = some (.int .u32 (X a)) ∧ W.cell? ⟨mb, b, none⟩ = some (.int .u32 (X b))) (by kernel_rfl) (by kernel_rfl) (fun _ _ _ d _ h => by cases d <;> exact h) ⟨by simpa using k1, by simpa using k2, by simpa using k3, by simpa using k4, by simpa using xa, by simpa using xb⟩ ?_
  repeat (first | (refine wpPlanZ_free (by rfl) (by rfl) (fun W => by (go_simp; try with_reducible rfl)) (fun K hK => ?_); go_simp; refine hK _ ?_; clear hK K) | (refine wpPlanZ_quiet (by rfl) (by rfl) (fun W hW => by (obtain ⟨z0, z1, z2, z3, z4, z5⟩ := hW; go_simp; try with_reducible rfl)) (fun K hK => ?_); go_simp; refine hK _ ?_; clear hK K))
  refine wpPlanZ_serial (by rfl) (by rfl) (fun K hK => ?_)
  go_simp
  rw [show IntKind.u32.wrap (X a + i) = lo (X a + i) from wrap_u32 _]
  refine hcall.mono ?_
  rintro e w2 ⟨rfl, hb2⟩
  have hB2 : Hid (Kx w w2 mb vi) := hB0.out.drew.below hb2
  refine hK _ _ (fun _ => ?_) ?_
  · have c2 : ∀ (j : Nat) (u : Value), V.cell? ⟨w.heap.size, j, none⟩ = some u → w2.cell? ⟨w.heap.size, j, none⟩ = some u := fun j u h => (hb2.cell (p := ⟨w.heap.size, j, none⟩) (show w.heap.size < V.drew.heap.size from World.block_lt_of_cell? V _ k1)).trans h
    have G2 := G0.drew.stays hb2
    exact ⟨c2 _ _ k1, c2 _ _ k2, c2 _ _ k3, c2 _ _ k4, G2.x a ha, G2.x b hb⟩
  clear hK K hcall
  repeat (first | (refine wpPlanZ_free (by rfl) (by rfl) (fun W => by (go_simp; try with_reducible rfl)) (fun K hK => ?_); go_simp; refine hK _ ?_; clear hK K) | (refine wpPlanZ_quiet (by rfl) (by rfl) (fun W hW => by (obtain ⟨z0, z1, z2, z3, z4, z5⟩ := hW; go_simp; try with_reducible rfl)) (fun K hK => ?_); go_simp; refine hK _ ?_; clear hK K))
  refine wpPlanZ_nil ?_
  go_wp2
  go_ret
  exact ⟨rfl, hB2.out⟩
set_option maxRecDepth 100000 in
set_option maxHeartbeats 4000000 in
theorem do_2 (G : MAt w base mb sb X p vi) (d a : Nat) (hd : d < 64) (ha : a < 64) (b i t : Int) :
    Calls Tryd.prog 26 #[.pointer (some ⟨mb, 0, none⟩), .agg #[.string ⟨#[99, 111, 112, 121]⟩, .int .i64 d, .int .i64 a, .int .i64 b, .int .u32 i, .int .i64 t]] w fun e w' => e = .returned (.bool true) ∧ MAt w' base mb sb (setX X d (X a)) p vi ∧ Kx w w' mb vi := by
  have O := OAt.new w ⟨#[99, 111, 112, 121]⟩ d a b i t
  have G0 := G.opened (.cells #[.string ⟨#[99, 111, 112, 121]⟩, .int .i64 d, .int .i64 a, .int .i64 b, .int .u32 i, .int .i64 t] 53)
  have hB0 : Hid (Kx w (w.alloc (.cells #[.string ⟨#[99, 111, 112, 121]⟩, .int .i64 d, .int .i64 a, .int .i64 b, .int .u32 i, .int .i64 t] 53)) mb vi) := Kx.alloc _ _ _ _
  have hd' : (d : Int) < 64 := by omega
  have ha' : (a : Int) < 64 := by omega
  have hv := G.xb a
  go_enter Tryd.func26, Tryd.ntmps26
  go_upto_region 18 with fail
  have hnb : w.heap.size ≠ mb := by have := G.lt; omega
  clear G
  generalize w.alloc (.cells #[.string ⟨#[99, 111, 112, 121]⟩, .int .i64 d, .int .i64 a, .int .i64 b, .int .u32 i, .int .i64 t] 53) = V at *
  have k1 := O.c1
  have k2 := O.c2
  have xa := G0.x a ha
  have xd := G0.x d hd
  have fd := G0.fz d
  refine wp_region_phase 13 [(0, 0), (1, 0), (2, 1), (3, 0), (4, 0), (5, 1), (6, 0), (7, 0), (8, 0), (9, 1), (10, 0), (11, 0), (12, 0), (13, 2)] (fun W => W.cell? ⟨w.heap.size, 1, none⟩ = some (.int .i64 d) ∧ W.cell? ⟨w.heap.size, 2, none⟩ = some (.int .i64 a) ∧ W.cell? ⟨mb, a, none⟩ = some (.int .u32 (X a))) (by kernel_rfl) (by kernel_rfl) (fun _ _ _ d _ h => by cases d <;> exact h) ⟨by simpa using k1, by simpa using k2, by simpa using xa⟩ ?_
  repeat (first | (refine wpPlanZ_free (by rfl) (by rfl) (fun W => by (go_simp; try with_reducible rfl)) (fun K hK => ?_); go_simp; refine hK _ ?_; clear hK K) | (refine wpPlanZ_quiet (by rfl) (by rfl) (fun W hW => by (obtain ⟨z0, z1, z2⟩ := hW; go_simp; try with_reducible rfl)) (fun K hK => ?_); go_simp; refine hK _ ?_; clear hK K))
  refine wpPlanZ_serial (by rfl) (by rfl) (fun K hK => ?_)
  go_simp
  refine hK _ _ (fun h => absurd h (by decide)) ?_
  clear hK K
  refine wpPlanZ_nil ?_
  go_wp2
  go_ret
  exact ⟨rfl, (G0.put d hd _ hv).drew, (hB0.out.setCell d _).drew⟩
set_option maxRecDepth 100000 in
set_option maxHeartbeats 4000000 in
theorem do_sum (s : ByteArray) (h21 : (s.toList == [111, 118, 101, 114, 43]) = false) (h22 : (s.toList == [111, 118, 101, 114, 45]) = false) (h23 : (s.toList == [108, 111, 97, 100]) = false) (h24 : (s.toList == [115, 116, 111, 114, 101]) = false) (h1 : (s.toList == [115, 101, 116]) = false) (h2 : (s.toList == [99, 111, 112, 121]) = false) (h17 : (s.toList == [113, 117, 111]) = false) (h18 : (s.toList == [114, 101, 109]) = false) (h19 : (s.toList == [113, 117, 111, 117]) = false) (h20 : (s.toList == [114, 101, 109, 117]) = false) (G : MAt w base mb sb X p vi) (d a b : Nat) (hd : d < 64) (ha : a < 64) (hb : b < 64) (i t : Int) (v : Int) (hv : u32 v) (hr : ∀ W, Calls Tryd.prog 38 #[.string s, .int .u32 (X a), .int .u32 (X b)] W fun e w' => e = .returned (.int .u32 v) ∧ w' = W) :
    Calls Tryd.prog 26 #[.pointer (some ⟨mb, 0, none⟩), .agg #[.string s, .int .i64 d, .int .i64 a, .int .i64 b, .int .u32 i, .int .i64 t]] w fun e w' => e = .returned (.bool true) ∧ MAt w' base mb sb (setX X d v) p vi ∧ Kx w w' mb vi := by
  have O := OAt.new w s d a b i t
  have G0 := G.opened (.cells #[.string s, .int .i64 d, .int .i64 a, .int .i64 b, .int .u32 i, .int .i64 t] 53)
  have hB0 : Hid (Kx w (w.alloc (.cells #[.string s, .int .i64 d, .int .i64 a, .int .i64 b, .int .u32 i, .int .i64 t] 53)) mb vi) := Kx.alloc _ _ _ _
  have hd' : (d : Int) < 64 := by omega
  have ha' : (a : Int) < 64 := by omega
  have hb' : (b : Int) < 64 := by omega
  go_enter Tryd.func26, Tryd.ntmps26
  go_upto_region 2 with fail
  have hnb : w.heap.size ≠ mb := by have := G.lt; omega
  clear G
  generalize w.alloc (.cells #[.string s, .int .i64 d, .int .i64 a, .int .i64 b, .int .u32 i, .int .i64 t] 53) = V at *
  have k0 := O.c0
  have k1 := O.c1
  have k2 := O.c2
  have k3 := O.c3
  have xa := G0.x a ha
  have xb := G0.x b hb
  have xd := G0.x d hd
  have fd := G0.fz d
  refine wp_region_phase 23 [(0, 0), (1, 0), (2, 1), (3, 0), (4, 1), (5, 0), (6, 0), (7, 1), (8, 0), (9, 0), (10, 0), (11, 1), (12, 0), (13, 0), (14, 1), (15, 0), (16, 0), (17, 0), (18, 1), (20, 0), (21, 0), (19, 2), (22, 0), (23, 2)] (fun W => W.cell? ⟨w.heap.size, 0, none⟩ = some (.string s) ∧ W.cell? ⟨w.heap.size, 1, none⟩ = some (.int .i64 d) ∧ W.cell? ⟨w.heap.size, 2, none⟩ = some (.int .i64 a) ∧ W.cell? ⟨w.heap.size, 3, none⟩ = some (.int .i64 b) ∧ W.cell? ⟨mb, a, none⟩ = some (.int .u32 (X a)) ∧ W.cell? ⟨mb, b, none⟩ = some (.int .u32 (X b))) (by kernel_rfl) (by kernel_rfl) (fun _ _ _ d _ h => by cases d <;> exact h) ⟨by simpa using k0, by simpa using k1, by simpa using k2, by simpa using k3, by simpa using xa, by simpa using xb⟩ ?_
  repeat (first | (refine wpPlanZ_free (by rfl) (by rfl) (fun W => by (go_simp; try with_reducible rfl)) (fun K hK => ?_); go_simp; refine hK _ ?_; clear hK K) | (refine wpPlanZ_quiet (by rfl) (by rfl) (fun W hW => by (obtain ⟨z0, z1, z2, z3, z4, z5⟩ := hW; go_simp; try with_reducible rfl)) (fun K hK => ?_); go_simp; refine hK _ ?_; clear hK K))
  refine wpPlanZ_serial (by rfl) (by rfl) (fun K hK => ?_)
  go_simp
  refine (hr _).mono ?_
  rintro e w' ⟨rfl, rfl⟩
  refine hK _ _ (fun _ => ⟨by simpa using k0, by simpa using k1, by simpa using k2, by simpa using k3, by simpa using xa, by simpa using xb⟩) ?_
  clear hK K
  repeat (first | (refine wpPlanZ_free (by rfl) (by rfl) (fun W => by (go_simp; try with_reducible rfl)) (fun K hK => ?_); go_simp; refine hK _ ?_; clear hK K) | (refine wpPlanZ_quiet (by rfl) (by rfl) (fun W hW => by (obtain ⟨z0, z1, z2, z3, z4, z5⟩ := hW; go_simp; try with_reducible rfl)) (fun K hK => ?_); go_simp; refine hK _ ?_; clear hK K))
  refine wpPlanZ_serial (by rfl) (by rfl) (fun K hK => ?_)
  go_simp
  refine hK _ _ (fun h => absurd h (by decide)) ?_
  clear hK K
  refine wpPlanZ_nil ?_
  go_wp2
  go_ret
  exact ⟨rfl, (G0.put d hd _ hv).drew, (hB0.out.setCell d _).drew⟩
end
end Go.Proofs.YtjjlbpenagobiaaDoor
