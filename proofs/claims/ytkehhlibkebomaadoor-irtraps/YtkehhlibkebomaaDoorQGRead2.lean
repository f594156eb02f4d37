/-
  A Guest's Read of a store.
-/
import Derived.Test.YtkehhlibkebomaaDoorQGRead
namespace Go.Proofs.YtkehhlibkebomaaDoor
open Go.RowKit Go.Maps
open Num
set_option linter.unusedVariables false
theorem pd_put {W : World} {B : Nat} (h : ∀ j, j < 3 → ∃ u, W.cell? ⟨B, j, none⟩ = some u) (v0 v1 v2 : Value) : ((((W.setCell ⟨B, 0, none⟩ v0).setCell ⟨B, 1, none⟩ v1).setCell ⟨B, 2, none⟩ v2).drew.cell? ⟨B, 0, none⟩ = some v0) ∧ ((((W.setCell ⟨B, 0, none⟩ v0).setCell ⟨B, 1, none⟩ v1).setCell ⟨B, 2, none⟩ v2).drew.cell? ⟨B, 1, none⟩ = some v1) ∧ ((((W.setCell ⟨B, 0, none⟩ v0).setCell ⟨B, 1, none⟩ v1).setCell ⟨B, 2, none⟩ v2).drew.cell? ⟨B, 2, none⟩ = some v2) := by
  have c := fun j (hj : j < 3) => putN_cell (W := W) (B := B) (v := fun j => match j with | 0 => v0 | 1 => v1 | _ => v2) 3 j (h j hj)
  exact ⟨(cell_drewG _ _).trans (c 0 (by omega)), (cell_drewG _ _).trans (c 1 (by omega)), (cell_drewG _ _).trans (c 2 (by omega))⟩
theorem ef_other (W : World) {B k : Nat} (h : k ≠ B) (v0 v1 v2 v3 v4 v5 v6 : Value) : (((((((W.setCell ⟨B, 0, none⟩ v0).setCell ⟨B, 1, none⟩ v1).setCell ⟨B, 2, none⟩ v2).setCell ⟨B, 3, none⟩ v3).setCell ⟨B, 4, none⟩ v4).setCell ⟨B, 5, none⟩ v5).setCell ⟨B, 6, none⟩ v6).heap[k]? = W.heap[k]? := by
  have e : ∀ (U : World) (j : Nat) (v : Value), (U.setCell ⟨B, j, none⟩ v).heap[k]? = U.heap[k]? := fun U j v => Below.heap_setCell U ⟨B, j, none⟩ v k h
  rw [e, e, e, e, e, e, e]
theorem alloc_belowG (w : World) (b : Obj) : Below w.heap.size w (w.alloc b) := (Below.refl _ _).alloc (Nat.le_refl _) _
section
variable {w : World} {base mb stb sb bp bw bh N : Nat} {X : Nat → Int} {p : List Pq} {vi : Value} {m : Nat → Int} {wt ht : Int → Bool}
set_option maxRecDepth 100000 in
set_option maxHeartbeats 4000000 in
theorem read_24 (pe : Nat → Addr) (E : Eg pe w) (R : RamIs w sb bp bw bh N m wt ht) (G : GAt w base mb stb sb X p vi) (a b : Nat) (ha : a < 64) (hb : b < 64) (d i t : Int) (d0 : -9223372036854775808 ≤ d) (d1 : d ≤ 9223372036854775807) :
    Calls Tryd.prog 18 #[.pointer (some ⟨mb, 0, none⟩), .agg #[.string ⟨#[115, 116, 111, 114, 101]⟩, .int .i64 d, .int .i64 a, .int .i64 b, .int .u32 i, .int .i64 t]] w fun e w' => e = .returned (.tuple #[.agg #[.int .i64 0, .int .u32 0, .int .u32 (lo (X a + i)), .int .i64 d, .int .u32 (X b), .bool false, .int .u32 0], .bool (decide (chk (lo (X a + i)) d = 0) && !wt (lo (X a + i) / 256))]) ∧ Below w.heap.size w w' := by
  have B1 : Below w.heap.size w (w.alloc (.cells #[.string ⟨#[115, 116, 111, 114, 101]⟩, .int .i64 d, .int .i64 a, .int .i64 b, .int .u32 i, .int .i64 t] 53)) := (Below.refl _ _).alloc (Nat.le_refl _) _
  have B2 : Below (w.alloc (.cells #[.string ⟨#[115, 116, 111, 114, 101]⟩, .int .i64 d, .int .i64 a, .int .i64 b, .int .u32 i, .int .i64 t] 53)).heap.size (w.alloc (.cells #[.string ⟨#[115, 116, 111, 114, 101]⟩, .int .i64 d, .int .i64 a, .int .i64 b, .int .u32 i, .int .i64 t] 53)) ((w.alloc (.cells #[.string ⟨#[115, 116, 111, 114, 101]⟩, .int .i64 d, .int .i64 a, .int .i64 b, .int .u32 i, .int .i64 t] 53)).alloc (.cells #[.int .i64 0, .int .u32 0, .int .u32 0, .int .i64 0, .int .u32 0, .bool false, .int .u32 0] 62)) := (Below.refl _ _).alloc (Nat.le_refl _) _
  have O := (OAt.new w ⟨#[115, 116, 111, 114, 101]⟩ d a b i t).stays B2
  have G0 := (G.stays B1).stays B2
  have XB := XBox.new (w.alloc (.cells #[.string ⟨#[115, 116, 111, 114, 101]⟩, .int .i64 d, .int .i64 a, .int .i64 b, .int .u32 i, .int .i64 t] 53))
  rw [World.size_alloc] at XB
  have hB0 : Hid (Below w.heap.size w ((w.alloc (.cells #[.string ⟨#[115, 116, 111, 114, 101]⟩, .int .i64 d, .int .i64 a, .int .i64 b, .int .u32 i, .int .i64 t] 53)).alloc (.cells #[.int .i64 0, .int .u32 0, .int .u32 0, .int .i64 0, .int .u32 0, .bool false, .int .u32 0] 62))) := B1.trans (B2.mono B1.size)
  have hmw := G.lt
  have GG : Hid (∀ W, Below w.heap.size w W → GAt W base mb stb sb X p vi) := fun W hW => G.stays hW
  clear B1 B2
  have ha' : (a : Int) < 64 := by omega
  have hb' : (b : Int) < 64 := by omega
  have hlo := lo_bd (X a + i)
  have HR : Hid (∀ W, Below w.heap.size w W → RamIs W sb bp bw bh N m wt ht) := fun W hW => R.stays hW (Nat.le_refl _)
  have HE : Hid (∀ W, Below w.heap.size w W → Eg pe W) := fun W hW => E.stays hW
  have hVs : ((w.alloc (.cells #[.string ⟨#[115, 116, 111, 114, 101]⟩, .int .i64 d, .int .i64 a, .int .i64 b, .int .u32 i, .int .i64 t] 53)).alloc (.cells #[.int .i64 0, .int .u32 0, .int .u32 0, .int .i64 0, .int .u32 0, .bool false, .int .u32 0] 62)).heap.size = w.heap.size + 2 := by simp
  clear R E
  go_enter Tryd.func18, Tryd.ntmps18
  go_upto_region 12 with fail
  clear G
  generalize ((w.alloc (.cells #[.string ⟨#[115, 116, 111, 114, 101]⟩, .int .i64 d, .int .i64 a, .int .i64 b, .int .u32 i, .int .i64 t] 53)).alloc (.cells #[.int .i64 0, .int .u32 0, .int .u32 0, .int .i64 0, .int .u32 0, .bool false, .int .u32 0] 62)) = V at *
  obtain ⟨k0, k1, k2, k3, k4, k5⟩ := id O
  have hnV := XB.lt
  have xa := G0.x a ha
  have xb := G0.x b hb
  have GA := G0.opened (.cells #[.int .u32 0, .int .i64 0, .int .u32 0] 60)
  have OA := O.stays (alloc_belowG V (.cells #[.int .u32 0, .int .i64 0, .int .u32 0] 60))
  have hBA : Hid (Below w.heap.size w (V.alloc (.cells #[.int .u32 0, .int .i64 0, .int .u32 0] 60))) := hB0.out.alloc (by omega) _
  have XA : Hid (XBox (V.alloc (.cells #[.int .u32 0, .int .i64 0, .int .u32 0] 60)) (w.heap.size + 1)) := XB.stays (alloc_belowG V _)
  have n0 : (V.alloc (.cells #[.int .u32 0, .int .i64 0, .int .u32 0] 60)).cell? ⟨w.heap.size + 2, 0, none⟩ = some (.int .u32 0) := by rw [← hVs]; simp
  have n1 : (V.alloc (.cells #[.int .u32 0, .int .i64 0, .int .u32 0] 60)).cell? ⟨w.heap.size + 2, 1, none⟩ = some (.int .i64 0) := by rw [← hVs]; simp
  have n2 : (V.alloc (.cells #[.int .u32 0, .int .i64 0, .int .u32 0] 60)).cell? ⟨w.heap.size + 2, 2, none⟩ = some (.int .u32 0) := by rw [← hVs]; simp
  have nf : ∀ j, (V.alloc (.cells #[.int .u32 0, .int .i64 0, .int .u32 0] 60)).frozen? ⟨w.heap.size + 2, j, none⟩ = false := fun j => by rw [← hVs]; exact World.frozen?_alloc_at _ _ _ _ rfl
  have nz : w.heap.size + 2 < (V.alloc (.cells #[.int .u32 0, .int .i64 0, .int .u32 0] 60)).heap.size := by simp [hVs]
  refine wp_region_phase 21 [(0, 0), (1, 0), (2, 1), (3, 0), (4, 0), (5, 0), (6, 1), (7, 0), (8, 1), (9, 0), (10, 0), (11, 1), (12, 0), (13, 0), (14, 1), (15, 0), (16, 0), (17, 0), (18, 1), (19, 0), (20, 2), (21, 2)] (fun W => W.cell? ⟨w.heap.size, 1, none⟩ = some (.int .i64 d) ∧ W.cell? ⟨w.heap.size, 2, none⟩ = some (.int .i64 a) ∧ W.cell? ⟨w.heap.size, 3, none⟩ = some (.int .i64 b) ∧ W.cell? ⟨w.heap.size, 4, none⟩ = some (.int .u32 i) ∧ W.cell? ⟨mb, 1 + a, none⟩ = some (.int .u32 (X a)) ∧ W.cell? ⟨mb, 1 + b, none⟩ = some (.int .u32 (X b))) (by kernel_rfl) (by kernel_rfl) (fun _ _ _ d _ h => by cases d <;> exact h) ⟨k1, k2, k3, k4, xa, xb⟩ ?_
  repeat (first | (refine wpPlanZ_free (by rfl) (by rfl) (fun W => by (go_simp; try with_reducible rfl)) (fun K hK => ?_); go_simp; refine hK _ ?_; clear hK K) | (refine wpPlanZ_quiet (by rfl) (by rfl) (fun W hW => by (obtain ⟨z0, z1, z2, z3, z4, z5⟩ := hW; go_simp; try with_reducible rfl)) (fun K hK => ?_); go_simp; refine hK _ ?_; clear hK K))
  refine wpPlanZ_serial (by rfl) (by rfl) (fun K hK => ?_)
  go_simp
  refine hK _ _ (fun _ => ⟨OA.c1, OA.c2, OA.c3, OA.c4, GA.x a ha, GA.x b hb⟩) ?_
  clear hK K
  generalize V.alloc (.cells #[.int .u32 0, .int .i64 0, .int .u32 0] 60) = A at *
  refine wpPlanZ_serial (by rfl) (by rfl) (fun K hK => ?_)
  go_simp
  refine hK _ _ (fun h => absurd h (by decide)) ?_
  clear hK K
  refine wpPlanZ_nil ?_
  rw [show IntKind.u32.wrap (X a + i) = lo (X a + i) from wrap_u32 _]
  obtain ⟨p0, p1, p2⟩ := pd_put (W := A) (B := w.heap.size + 2) (fun j hj => by
    have : j = 0 ∨ j = 1 ∨ j = 2 := by omega
    rcases this with rfl | rfl | rfl
    · exact ⟨_, n0⟩
    · exact ⟨_, n1⟩
    · exact ⟨_, n2⟩) (.int .u32 (lo (X a + i))) (.int .i64 d) (.int .u32 (X b))
  have hBU : Hid (Below w.heap.size w (((A.setCell ⟨w.heap.size + 2, 0, none⟩ (.int .u32 (lo (X a + i)))).setCell ⟨w.heap.size + 2, 1, none⟩ (.int .i64 d)).setCell ⟨w.heap.size + 2, 2, none⟩ (.int .u32 (X b))).drew) := (((hBA.out.setCell (p := ⟨w.heap.size + 2, 0, none⟩) (by show w.heap.size ≤ w.heap.size + 2; omega) _).setCell (p := ⟨w.heap.size + 2, 1, none⟩) (by show w.heap.size ≤ w.heap.size + 2; omega) _).setCell (p := ⟨w.heap.size + 2, 2, none⟩) (by show w.heap.size ≤ w.heap.size + 2; omega) _).drew
  have hoth : ∀ k, k ≠ w.heap.size + 2 → (((A.setCell ⟨w.heap.size + 2, 0, none⟩ (.int .u32 (lo (X a + i)))).setCell ⟨w.heap.size + 2, 1, none⟩ (.int .i64 d)).setCell ⟨w.heap.size + 2, 2, none⟩ (.int .u32 (X b))).drew.heap[k]? = A.heap[k]? := fun k hk => ((Below.heap_setCell _ ⟨w.heap.size + 2, 2, none⟩ _ k hk).trans (Below.heap_setCell _ ⟨w.heap.size + 2, 1, none⟩ _ k hk)).trans (Below.heap_setCell _ ⟨w.heap.size + 2, 0, none⟩ _ k hk)
  have XU := XA.out.block (hoth (w.heap.size + 1) (by omega))
  generalize (((A.setCell ⟨w.heap.size + 2, 0, none⟩ (.int .u32 (lo (X a + i)))).setCell ⟨w.heap.size + 2, 1, none⟩ (.int .i64 d)).setCell ⟨w.heap.size + 2, 2, none⟩ (.int .u32 (X b))).drew = U at *
  generalize hAD : lo (X a + i) = ad at *
  have HAD : Hid (lo (X a + i) = ad) := hAD
  clear hoth n0 n1 n2 nf nz XA hBA GA OA k0 k1 k2 k3 k4 k5 xa xb hnV O hAD
  have GU : Hid (GAt U base mb stb sb X p vi) := GG.out U hBU.out
  clear G0 XB hVs hB0
  go_upto_region 13 with fail
  refine wp_region_phase 9 [(0, 1), (1, 0), (2, 0), (3, 0), (4, 0), (5, 1), (6, 2), (7, 2), (8, 0)] (fun W => W.cell? ⟨w.heap.size + 2, 0, none⟩ = some (.int .u32 ad) ∧ W.cell? ⟨w.heap.size + 2, 1, none⟩ = some (.int .i64 d) ∧ W.cell? ⟨w.heap.size + 2, 2, none⟩ = some (.int .u32 (X b))) (by kernel_rfl) (by kernel_rfl) (fun _ _ _ d _ h => by cases d <;> exact h) ⟨p0, p1, p2⟩ ?_
  repeat (first | (refine wpPlanZ_free (by rfl) (by rfl) (fun W => by (go_simp; try with_reducible rfl)) (fun K hK => ?_); go_simp; refine hK _ ?_; clear hK K) | (refine wpPlanZ_quiet (by rfl) (by rfl) (fun W hW => by (obtain ⟨z0, z1, z2⟩ := hW; go_simp; try with_reducible rfl)) (fun K hK => ?_); go_simp; refine hK _ ?_; clear hK K))
  refine wpPlanZ_serial (by rfl) (by rfl) (fun K hK => ?_)
  go_simp
  refine (admits_any pe (HE.out _ hBU.out.drew) (HR.out _ hBU.out.drew) GU.out.drew ad d (X b) hlo.1 hlo.2 d0 d1).mono ?_
  rintro e w2 ⟨rfl, hb2⟩
  have hB2 : Hid (Below w.heap.size w w2) := hBU.out.drew.trans (hb2.mono hBU.out.size)
  have hU2 : w.heap.size + 2 < U.drew.heap.size := World.block_lt_of_cell? U _ p0
  have XB := XU.drew.stays hb2
  refine hK _ _ (fun _ => ⟨(hb2.cell (p := ⟨w.heap.size + 2, 0, none⟩) hU2).trans p0, (hb2.cell (p := ⟨w.heap.size + 2, 1, none⟩) hU2).trans p1, (hb2.cell (p := ⟨w.heap.size + 2, 2, none⟩) hU2).trans p2⟩) ?_
  have P0 := (hb2.cell (p := ⟨w.heap.size + 2, 0, none⟩) hU2).trans p0
  have P1 := (hb2.cell (p := ⟨w.heap.size + 2, 1, none⟩) hU2).trans p1
  have P2 := (hb2.cell (p := ⟨w.heap.size + 2, 2, none⟩) hU2).trans p2
  clear hK K p0 p1 p2 hU2 hb2 hBU GU
  have hnV := XB.lt
  obtain ⟨u0, y0⟩ := XB.c 0 (by omega)
  obtain ⟨u1, y1⟩ := XB.c 1 (by omega)
  obtain ⟨u2, y2⟩ := XB.c 2 (by omega)
  obtain ⟨u3, y3⟩ := XB.c 3 (by omega)
  obtain ⟨u4, y4⟩ := XB.c 4 (by omega)
  obtain ⟨u5, y5⟩ := XB.c 5 (by omega)
  obtain ⟨u6, y6⟩ := XB.c 6 (by omega)
  have fz := XB.f
  refine wpPlanZ_serial (by rfl) (by rfl) (fun K hK => ?_)
  go_simp
  refine hK _ _ (fun _ => ⟨(World.cell?_of_block (a := ⟨w.heap.size + 2, 0, none⟩) (ef_other w2 (B := w.heap.size + 1) (k := w.heap.size + 2) (by omega) _ _ _ _ _ _ _)).trans P0, (World.cell?_of_block (a := ⟨w.heap.size + 2, 1, none⟩) (ef_other w2 (B := w.heap.size + 1) (k := w.heap.size + 2) (by omega) _ _ _ _ _ _ _)).trans P1, (World.cell?_of_block (a := ⟨w.heap.size + 2, 2, none⟩) (ef_other w2 (B := w.heap.size + 1) (k := w.heap.size + 2) (by omega) _ _ _ _ _ _ _)).trans P2⟩) ?_
  clear hK K
  refine wpPlanZ_free (by rfl) (by rfl) (fun W => by (go_simp; try with_reducible rfl)) (fun K hK => ?_); go_simp; refine hK _ ?_; clear hK K
  refine wpPlanZ_nil ?_
  go_wp2
  refine bodyPost_ret (results_cell1G (A := ⟨w.heap.size + 1, 0, none⟩) rfl _ _ _ rfl (ef_put XB _ _ _ _ _ _ _)) rfl ?_
  exact ⟨by rw [HAD.out]; rfl, ef_below hB2.out (by omega) _ _ _ _ _ _ _⟩
end
end Go.Proofs.YtkehhlibkebomaaDoor
