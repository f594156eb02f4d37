/-
  A Guest's Read: what each kind of op comes to.
-/
import Derived.Laws.ResultCell
import Derived.Test.YtkehhlibkebomaaDoorQGQuo
namespace Go.Proofs.YtkehhlibkebomaaDoor
open Go.RowKit Go.Maps
open Num
set_option linter.unusedVariables false
theorem results_cell1G {fn : Func} {p u : Tmp} {ty : TypeId} {A : Addr} {x : Value} (h : fn.results = #[.cell p ty, .tmp u]) (tmps : Array Value) (P : Program) (w : World) (hp : tmps.getD p undef = .pointer (some A)) (hl : (loadVar ty A).run P w = .ok x w) :
    (results fn tmps).run P w = .ok (.tuple #[x, tmps.getD u undef]) w := by
  rw [results_cell_tmp h, hp]
  simp [asAddr, Result.andThen, hl]
theorem cell_drewG (W : World) (a : Addr) : W.drew.cell? a = W.cell? a := rfl
theorem ef_loadD {w : World} {B : Nat} {v : Nat → Value} (z : ∀ j, j < 7 → w.cell? ⟨B, j, none⟩ = some (v j)) : (loadVar 62 ⟨B, 0, none⟩).run Tryd.prog w.drew = .ok (.agg #[v 0, v 1, v 2, v 3, v 4, v 5, v 6]) w.drew := ef_load (w := w.drew) (fun j hj => (cell_drewG w _).trans (z j hj))
theorem ef_putD {W : World} {B : Nat} (F : XBox W B) (v0 v1 v2 v3 v4 v5 v6 : Value) : (loadVar 62 ⟨B, 0, none⟩).run Tryd.prog (((((((W.setCell ⟨B, 0, none⟩ v0).setCell ⟨B, 1, none⟩ v1).setCell ⟨B, 2, none⟩ v2).setCell ⟨B, 3, none⟩ v3).setCell ⟨B, 4, none⟩ v4).setCell ⟨B, 5, none⟩ v5).setCell ⟨B, 6, none⟩ v6).drew = .ok (.agg #[v0, v1, v2, v3, v4, v5, v6]) (((((((W.setCell ⟨B, 0, none⟩ v0).setCell ⟨B, 1, none⟩ v1).setCell ⟨B, 2, none⟩ v2).setCell ⟨B, 3, none⟩ v3).setCell ⟨B, 4, none⟩ v4).setCell ⟨B, 5, none⟩ v5).setCell ⟨B, 6, none⟩ v6).drew := by
  have h := ef_loadD (w := putN W B (fun j => match j with | 0 => v0 | 1 => v1 | 2 => v2 | 3 => v3 | 4 => v4 | 5 => v5 | _ => v6) 7) (B := B) (v := fun j => match j with | 0 => v0 | 1 => v1 | 2 => v2 | 3 => v3 | 4 => v4 | 5 => v5 | _ => v6) (fun j hj => by rw [putN_cell 7 j (F.c j hj), if_pos hj])
  exact h
section
variable {w : World} {base mb stb sb bp bw bh N : Nat} {X : Nat → Int} {p : List Pq} {vi : Value} {m : Nat → Int} {wt ht : Int → Bool}
set_option maxRecDepth 100000 in
set_option maxHeartbeats 4000000 in
theorem read_21 (G : GAt w base mb stb sb X p vi) (a b : Nat) (ha : a < 64) (hb : b < 64) (d i t : Int) :
    Calls Tryd.prog 18 #[.pointer (some ⟨mb, 0, none⟩), .agg #[.string ⟨#[111, 118, 101, 114, 43]⟩, .int .i64 d, .int .i64 a, .int .i64 b, .int .u32 i, .int .i64 t]] w fun e w' => e = .returned (.tuple #[.agg #[.int .i64 0, .int .u32 0, .int .u32 0, .int .i64 0, .int .u32 0, .bool false, .int .u32 0], .bool (!ov (sg (X a) + sg (X b)))]) ∧ Below w.heap.size w w' := by
  have B1 : Below w.heap.size w (w.alloc (.cells #[.string ⟨#[111, 118, 101, 114, 43]⟩, .int .i64 d, .int .i64 a, .int .i64 b, .int .u32 i, .int .i64 t] 53)) := (Below.refl _ _).alloc (Nat.le_refl _) _
  have B2 : Below (w.alloc (.cells #[.string ⟨#[111, 118, 101, 114, 43]⟩, .int .i64 d, .int .i64 a, .int .i64 b, .int .u32 i, .int .i64 t] 53)).heap.size (w.alloc (.cells #[.string ⟨#[111, 118, 101, 114, 43]⟩, .int .i64 d, .int .i64 a, .int .i64 b, .int .u32 i, .int .i64 t] 53)) ((w.alloc (.cells #[.string ⟨#[111, 118, 101, 114, 43]⟩, .int .i64 d, .int .i64 a, .int .i64 b, .int .u32 i, .int .i64 t] 53)).alloc (.cells #[.int .i64 0, .int .u32 0, .int .u32 0, .int .i64 0, .int .u32 0, .bool false, .int .u32 0] 62)) := (Below.refl _ _).alloc (Nat.le_refl _) _
  have O := (OAt.new w ⟨#[111, 118, 101, 114, 43]⟩ d a b i t).stays B2
  have G0 := (G.stays B1).stays B2
  have XB := XBox.new (w.alloc (.cells #[.string ⟨#[111, 118, 101, 114, 43]⟩, .int .i64 d, .int .i64 a, .int .i64 b, .int .u32 i, .int .i64 t] 53))
  rw [World.size_alloc] at XB
  have hB0 : Hid (Below w.heap.size w ((w.alloc (.cells #[.string ⟨#[111, 118, 101, 114, 43]⟩, .int .i64 d, .int .i64 a, .int .i64 b, .int .u32 i, .int .i64 t] 53)).alloc (.cells #[.int .i64 0, .int .u32 0, .int .u32 0, .int .i64 0, .int .u32 0, .bool false, .int .u32 0] 62))) := B1.trans (B2.mono B1.size)
  have hmw := G.lt
  clear B1 B2
  have ha' : (a : Int) < 64 := by omega
  have hb' : (b : Int) < 64 := by omega
  obtain ⟨xa0, xa1⟩ := G.xb a
  obtain ⟨xb0, xb1⟩ := G.xb b
  have hcall := fun W => add_any (X a) (X b) xa0 xa1 xb0 xb1 W
  go_enter Tryd.func18, Tryd.ntmps18
  go_upto_region 3 with fail
  clear G
  generalize ((w.alloc (.cells #[.string ⟨#[111, 118, 101, 114, 43]⟩, .int .i64 d, .int .i64 a, .int .i64 b, .int .u32 i, .int .i64 t] 53)).alloc (.cells #[.int .i64 0, .int .u32 0, .int .u32 0, .int .i64 0, .int .u32 0, .bool false, .int .u32 0] 62)) = V at *
  obtain ⟨k0, k1, k2, k3, k4, k5⟩ := id O
  have hnV := XB.lt
  have xa := G0.x a ha
  have xb := G0.x b hb
  refine wp_region_phase 20 [(0, 0), (1, 0), (2, 1), (3, 0), (4, 0), (5, 0), (6, 1), (7, 0), (8, 0), (9, 1), (10, 0), (11, 0), (12, 0), (13, 1), (14, 2), (15, 0), (16, 0), (17, 0), (18, 0), (19, 0)] (fun W => W.cell? ⟨w.heap.size, 2, none⟩ = some (.int .i64 a) ∧ W.cell? ⟨w.heap.size, 3, none⟩ = some (.int .i64 b) ∧ W.cell? ⟨mb, 1 + a, none⟩ = some (.int .u32 (X a)) ∧ W.cell? ⟨mb, 1 + b, none⟩ = some (.int .u32 (X b))) (by kernel_rfl) (by kernel_rfl) (fun _ _ _ d _ h => by cases d <;> exact h) ⟨k2, k3, xa, xb⟩ ?_
  repeat (first | (refine wpPlanZ_free (by rfl) (by rfl) (fun W => by (go_simp; try with_reducible rfl)) (fun K hK => ?_); go_simp; refine hK _ ?_; clear hK K) | (refine wpPlanZ_quiet (by rfl) (by rfl) (fun W hW => by (obtain ⟨z0, z1, z2, z3⟩ := hW; go_simp; try with_reducible rfl)) (fun K hK => ?_); go_simp; refine hK _ ?_; clear hK K))
  refine wpPlanZ_serial (by rfl) (by rfl) (fun K hK => ?_)
  go_simp
  refine (hcall _).mono ?_
  rintro e w' ⟨rfl, rfl⟩
  refine hK _ _ (fun _ => ⟨k2, k3, xa, xb⟩) ?_
  clear hK K hcall
  repeat (first | (refine wpPlanZ_free (by rfl) (by rfl) (fun W => by (go_simp; try with_reducible rfl)) (fun K hK => ?_); go_simp; refine hK _ ?_; clear hK K) | (refine wpPlanZ_quiet (by rfl) (by rfl) (fun W hW => by (obtain ⟨z0, z1, z2, z3⟩ := hW; go_simp; try with_reducible rfl)) (fun K hK => ?_); go_simp; refine hK _ ?_; clear hK K))
  refine wpPlanZ_nil ?_
  obtain ⟨u0, y0⟩ := XB.c 0 (by omega)
  obtain ⟨u1, y1⟩ := XB.c 1 (by omega)
  obtain ⟨u2, y2⟩ := XB.c 2 (by omega)
  obtain ⟨u3, y3⟩ := XB.c 3 (by omega)
  obtain ⟨u4, y4⟩ := XB.c 4 (by omega)
  obtain ⟨u5, y5⟩ := XB.c 5 (by omega)
  obtain ⟨u6, y6⟩ := XB.c 6 (by omega)
  have fz := XB.f
  go_wp2
  refine bodyPost_ret (results_cell1G (A := ⟨w.heap.size + 1, 0, none⟩) rfl _ _ _ rfl (ef_putD XB _ _ _ _ _ _ _)) rfl ?_
  exact ⟨rfl, (ef_below hB0.out (by omega) _ _ _ _ _ _ _).drew⟩
set_option maxRecDepth 100000 in
set_option maxHeartbeats 4000000 in
theorem read_22 (G : GAt w base mb stb sb X p vi) (a b : Nat) (ha : a < 64) (hb : b < 64) (d i t : Int) :
    Calls Tryd.prog 18 #[.pointer (some ⟨mb, 0, none⟩), .agg #[.string ⟨#[111, 118, 101, 114, 45]⟩, .int .i64 d, .int .i64 a, .int .i64 b, .int .u32 i, .int .i64 t]] w fun e w' => e = .returned (.tuple #[.agg #[.int .i64 0, .int .u32 0, .int .u32 0, .int .i64 0, .int .u32 0, .bool false, .int .u32 0], .bool (!ov (sg (X a) - sg (X b)))]) ∧ Below w.heap.size w w' := by
  have B1 : Below w.heap.size w (w.alloc (.cells #[.string ⟨#[111, 118, 101, 114, 45]⟩, .int .i64 d, .int .i64 a, .int .i64 b, .int .u32 i, .int .i64 t] 53)) := (Below.refl _ _).alloc (Nat.le_refl _) _
  have B2 : Below (w.alloc (.cells #[.string ⟨#[111, 118, 101, 114, 45]⟩, .int .i64 d, .int .i64 a, .int .i64 b, .int .u32 i, .int .i64 t] 53)).heap.size (w.alloc (.cells #[.string ⟨#[111, 118, 101, 114, 45]⟩, .int .i64 d, .int .i64 a, .int .i64 b, .int .u32 i, .int .i64 t] 53)) ((w.alloc (.cells #[.string ⟨#[111, 118, 101, 114, 45]⟩, .int .i64 d, .int .i64 a, .int .i64 b, .int .u32 i, .int .i64 t] 53)).alloc (.cells #[.int .i64 0, .int .u32 0, .int .u32 0, .int .i64 0, .int .u32 0, .bool false, .int .u32 0] 62)) := (Below.refl _ _).alloc (Nat.le_refl _) _
  have O := (OAt.new w ⟨#[111, 118, 101, 114, 45]⟩ d a b i t).stays B2
  have G0 := (G.stays B1).stays B2
  have XB := XBox.new (w.alloc (.cells #[.string ⟨#[111, 118, 101, 114, 45]⟩, .int .i64 d, .int .i64 a, .int .i64 b, .int .u32 i, .int .i64 t] 53))
  rw [World.size_alloc] at XB
  have hB0 : Hid (Below w.heap.size w ((w.alloc (.cells #[.string ⟨#[111, 118, 101, 114, 45]⟩, .int .i64 d, .int .i64 a, .int .i64 b, .int .u32 i, .int .i64 t] 53)).alloc (.cells #[.int .i64 0, .int .u32 0, .int .u32 0, .int .i64 0, .int .u32 0, .bool false, .int .u32 0] 62))) := B1.trans (B2.mono B1.size)
  have hmw := G.lt
  clear B1 B2
  have ha' : (a : Int) < 64 := by omega
  have hb' : (b : Int) < 64 := by omega
  obtain ⟨xa0, xa1⟩ := G.xb a
  obtain ⟨xb0, xb1⟩ := G.xb b
  have hcall := fun W => sub_any (X a) (X b) xa0 xa1 xb0 xb1 W
  go_enter Tryd.func18, Tryd.ntmps18
  go_upto_region 6 with fail
  clear G
  generalize ((w.alloc (.cells #[.string ⟨#[111, 118, 101, 114, 45]⟩, .int .i64 d, .int .i64 a, .int .i64 b, .int .u32 i, .int .i64 t] 53)).alloc (.cells #[.int .i64 0, .int .u32 0, .int .u32 0, .int .i64 0, .int .u32 0, .bool false, .int .u32 0] 62)) = V at *
  obtain ⟨k0, k1, k2, k3, k4, k5⟩ := id O
  have hnV := XB.lt
  have xa := G0.x a ha
  have xb := G0.x b hb
  refine wp_region_phase 20 [(0, 0), (1, 0), (2, 1), (3, 0), (4, 0), (5, 0), (6, 1), (7, 0), (8, 0), (9, 1), (10, 0), (11, 0), (12, 0), (13, 1), (14, 2), (15, 0), (16, 0), (17, 0), (18, 0), (19, 0)] (fun W => W.cell? ⟨w.heap.size, 2, none⟩ = some (.int .i64 a) ∧ W.cell? ⟨w.heap.size, 3, none⟩ = some (.int .i64 b) ∧ W.cell? ⟨mb, 1 + a, none⟩ = some (.int .u32 (X a)) ∧ W.cell? ⟨mb, 1 + b, none⟩ = some (.int .u32 (X b))) (by kernel_rfl) (by kernel_rfl) (fun _ _ _ d _ h => by cases d <;> exact h) ⟨k2, k3, xa, xb⟩ ?_
  repeat (first | (refine wpPlanZ_free (by rfl) (by rfl) (fun W => by (go_simp; try with_reducible rfl)) (fun K hK => ?_); go_simp; refine hK _ ?_; clear hK K) | (refine wpPlanZ_quiet (by rfl) (by rfl) (fun W hW => by (obtain ⟨z0, z1, z2, z3⟩ := hW; go_simp; try with_reducible rfl)) (fun K hK => ?_); go_simp; refine hK _ ?_; clear hK K))
  refine wpPlanZ_serial (by rfl) (by rfl) (fun K hK => ?_)
  go_simp
  refine (hcall _).mono ?_
  rintro e w' ⟨rfl, rfl⟩
  refine hK _ _ (fun _ => ⟨k2, k3, xa, xb⟩) ?_
  clear hK K hcall
  repeat (first | (refine wpPlanZ_free (by rfl) (by rfl) (fun W => by (go_simp; try with_reducible rfl)) (fun K hK => ?_); go_simp; refine hK _ ?_; clear hK K) | (refine wpPlanZ_quiet (by rfl) (by rfl) (fun W hW => by (obtain ⟨z0, z1, z2, z3⟩ := hW; go_simp; try with_reducible rfl)) (fun K hK => ?_); go_simp; refine hK _ ?_; clear hK K))
  refine wpPlanZ_nil ?_
  obtain ⟨u0, y0⟩ := XB.c 0 (by omega)
  obtain ⟨u1, y1⟩ := XB.c 1 (by omega)
  obtain ⟨u2, y2⟩ := XB.c 2 (by omega)
  obtain ⟨u3, y3⟩ := XB.c 3 (by omega)
  obtain ⟨u4, y4⟩ := XB.c 4 (by omega)
  obtain ⟨u5, y5⟩ := XB.c 5 (by omega)
  obtain ⟨u6, y6⟩ := XB.c 6 (by omega)
  have fz := XB.f
  go_wp2
  refine bodyPost_ret (results_cell1G (A := ⟨w.heap.size + 1, 0, none⟩) rfl _ _ _ rfl (ef_putD XB _ _ _ _ _ _ _)) rfl ?_
  exact ⟨rfl, (ef_below hB0.out (by omega) _ _ _ _ _ _ _).drew⟩
set_option maxRecDepth 100000 in
set_option maxHeartbeats 4000000 in
theorem read_23 (pe : Nat → Addr) (E : Eg pe w) (R : RamIs w sb bp bw bh N m wt ht) (G : GAt w base mb stb sb X p vi) (hp : p.length ≤ 1000) (a : Nat) (ha : a < 64) (d b i t : Int) (hbv : b = 1 ∨ b = 2 ∨ b = 4 ∨ b = -1 ∨ b = -2) (hi : u32 i) (hc : chk (lo (X a + i)) (if b < 0 then -b else b) = 0) :
    Calls Tryd.prog 18 #[.pointer (some ⟨mb, 0, none⟩), .agg #[.string ⟨#[108, 111, 97, 100]⟩, .int .i64 d, .int .i64 a, .int .i64 b, .int .u32 i, .int .i64 t]] w fun e w' => e = .returned (.tuple #[.agg #[.int .i64 d, .int .u32 (ld (vw m (pqs p)) (lo (X a + i)) (if b < 0 then -b else b) (decide (b < 0))), .int .u32 0, .int .i64 0, .int .u32 0, .bool false, .int .u32 0], .bool true]) ∧ Below w.heap.size w w' := by
  have B1 : Below w.heap.size w (w.alloc (.cells #[.string ⟨#[108, 111, 97, 100]⟩, .int .i64 d, .int .i64 a, .int .i64 b, .int .u32 i, .int .i64 t] 53)) := (Below.refl _ _).alloc (Nat.le_refl _) _
  have B2 : Below (w.alloc (.cells #[.string ⟨#[108, 111, 97, 100]⟩, .int .i64 d, .int .i64 a, .int .i64 b, .int .u32 i, .int .i64 t] 53)).heap.size (w.alloc (.cells #[.string ⟨#[108, 111, 97, 100]⟩, .int .i64 d, .int .i64 a, .int .i64 b, .int .u32 i, .int .i64 t] 53)) ((w.alloc (.cells #[.string ⟨#[108, 111, 97, 100]⟩, .int .i64 d, .int .i64 a, .int .i64 b, .int .u32 i, .int .i64 t] 53)).alloc (.cells #[.int .i64 0, .int .u32 0, .int .u32 0, .int .i64 0, .int .u32 0, .bool false, .int .u32 0] 62)) := (Below.refl _ _).alloc (Nat.le_refl _) _
  have O := (OAt.new w ⟨#[108, 111, 97, 100]⟩ d a b i t).stays B2
  have G0 := (G.stays B1).stays B2
  have XB := XBox.new (w.alloc (.cells #[.string ⟨#[108, 111, 97, 100]⟩, .int .i64 d, .int .i64 a, .int .i64 b, .int .u32 i, .int .i64 t] 53))
  rw [World.size_alloc] at XB
  have hB0 : Hid (Below w.heap.size w ((w.alloc (.cells #[.string ⟨#[108, 111, 97, 100]⟩, .int .i64 d, .int .i64 a, .int .i64 b, .int .u32 i, .int .i64 t] 53)).alloc (.cells #[.int .i64 0, .int .u32 0, .int .u32 0, .int .i64 0, .int .u32 0, .bool false, .int .u32 0] 62))) := B1.trans (B2.mono B1.size)
  have hmw := G.lt
  clear B1 B2
  have ha' : (a : Int) < 64 := by omega
  have hmx := maxw b hbv
  have hlo := lo_bd (X a + i)
  have HR : Hid (∀ W, Below w.heap.size w W → RamIs W sb bp bw bh N m wt ht) := fun W hW => R.stays hW (Nat.le_refl _)
  have HE : Hid (∀ W, Below w.heap.size w W → Eg pe W) := fun W hW => E.stays hW
  obtain ⟨sz, hsz⟩ : ∃ sz, sz = (if b < 0 then -b else b) := ⟨_, rfl⟩
  rw [← hsz] at hc hmx ⊢
  have s0 : -9223372036854775808 ≤ sz := by omega
  have s1 : sz ≤ 9223372036854775807 := by omega
  clear hsz R E
  go_enter Tryd.func18, Tryd.ntmps18
  go_upto_region 9 with fail
  clear G
  generalize ((w.alloc (.cells #[.string ⟨#[108, 111, 97, 100]⟩, .int .i64 d, .int .i64 a, .int .i64 b, .int .u32 i, .int .i64 t] 53)).alloc (.cells #[.int .i64 0, .int .u32 0, .int .u32 0, .int .i64 0, .int .u32 0, .bool false, .int .u32 0] 62)) = V at *
  obtain ⟨k0, k1, k2, k3, k4, k5⟩ := id O
  have hnV := XB.lt
  have xa := G0.x a ha
  refine wp_region_phase 28 [(0, 0), (1, 0), (2, 0), (3, 0), (4, 0), (5, 1), (6, 0), (7, 0), (8, 0), (9, 1), (10, 0), (11, 1), (12, 0), (13, 0), (14, 1), (15, 0), (16, 1), (17, 0), (18, 0), (19, 0), (20, 1), (21, 0), (22, 2), (23, 0), (24, 0), (25, 0), (26, 0), (27, 0)] (fun W => W.cell? ⟨w.heap.size, 2, none⟩ = some (.int .i64 a) ∧ W.cell? ⟨w.heap.size, 3, none⟩ = some (.int .i64 b) ∧ W.cell? ⟨w.heap.size, 4, none⟩ = some (.int .u32 i) ∧ W.cell? ⟨mb, 1 + a, none⟩ = some (.int .u32 (X a))) (by kernel_rfl) (by kernel_rfl) (fun _ _ _ d _ h => by cases d <;> exact h) ⟨k2, k3, k4, xa⟩ ?_
  repeat (first | (refine wpPlanZ_free (by rfl) (by rfl) (fun W => by (go_simp; try with_reducible rfl)) (fun K hK => ?_); go_simp; refine hK _ ?_; clear hK K) | (refine wpPlanZ_quiet (by rfl) (by rfl) (fun W hW => by (obtain ⟨z0, z1, z2, z3⟩ := hW; go_simp; try with_reducible rfl)) (fun K hK => ?_); go_simp; refine hK _ ?_; clear hK K))
  refine wpPlanZ_serial (by rfl) (by rfl) (fun K hK => ?_)
  go_simp
  rw [show IntKind.u32.wrap (X a + i) = lo (X a + i) from wrap_u32 _]
  try rw [hmx]
  refine (gload_ok (HR.out _ hB0.out.drew) G0.drew (by omega) (lo (X a + i)) sz (decide (b < 0)) hlo.1 hlo.2 hc).mono ?_
  rintro e w2 ⟨rfl, hb2⟩
  have hB2 : Hid (Below w.heap.size w w2) := hB0.out.drew.trans (hb2.mono hB0.out.size)
  have O2 := O.drew.stays hb2
  have XB2 := XB.drew.stays hb2
  have xa2 := (G0.drew.stays hb2).x a ha
  refine hK _ _ (fun _ => ⟨O2.c2, O2.c3, O2.c4, xa2⟩) ?_
  clear hK K k0 k1 k2 k3 k4 k5 xa xa2 hnV XB O G0 hb2 hmx
  have XB := XB2
  obtain ⟨k0, k1, k2, k3, k4, k5⟩ := O2
  have hnV := XB.lt
  repeat (first | (refine wpPlanZ_free (by rfl) (by rfl) (fun W => by (go_simp; try with_reducible rfl)) (fun K hK => ?_); go_simp; refine hK _ ?_; clear hK K) | (refine wpPlanZ_quiet (by rfl) (by rfl) (fun W hW => by (obtain ⟨z0, z1, z2, z3⟩ := hW; go_simp; try with_reducible rfl)) (fun K hK => ?_); go_simp; refine hK _ ?_; clear hK K))
  refine wpPlanZ_nil ?_
  obtain ⟨u0, y0⟩ := XB.c 0 (by omega)
  obtain ⟨u1, y1⟩ := XB.c 1 (by omega)
  obtain ⟨u2, y2⟩ := XB.c 2 (by omega)
  obtain ⟨u3, y3⟩ := XB.c 3 (by omega)
  obtain ⟨u4, y4⟩ := XB.c 4 (by omega)
  obtain ⟨u5, y5⟩ := XB.c 5 (by omega)
  obtain ⟨u6, y6⟩ := XB.c 6 (by omega)
  have fz := XB.f
  go_wp2
  refine bodyPost_ret (results_cell1G (A := ⟨w.heap.size + 1, 0, none⟩) rfl _ _ _ rfl (ef_put XB _ _ _ _ _ _ _)) rfl ?_
  exact ⟨rfl, ef_below hB2.out (by omega) _ _ _ _ _ _ _⟩
set_option maxRecDepth 100000 in
set_option maxHeartbeats 4000000 in
theorem read_23n (pe : Nat → Addr) (E : Eg pe w) (R : RamIs w sb bp bw bh N m wt ht) (G : GAt w base mb stb sb X p vi) (hp : p.length ≤ 1000) (a : Nat) (ha : a < 64) (d b i t : Int) (hbv : b = 1 ∨ b = 2 ∨ b = 4 ∨ b = -1 ∨ b = -2) (hi : u32 i) (hc : chk (lo (X a + i)) (if b < 0 then -b else b) ≠ 0) :
    Calls Tryd.prog 18 #[.pointer (some ⟨mb, 0, none⟩), .agg #[.string ⟨#[108, 111, 97, 100]⟩, .int .i64 d, .int .i64 a, .int .i64 b, .int .u32 i, .int .i64 t]] w fun e w' => e = .returned (.tuple #[.agg #[.int .i64 d, .int .u32 0, .int .u32 0, .int .i64 0, .int .u32 0, .bool false, .int .u32 0], .bool false]) ∧ Below w.heap.size w w' := by
  have B1 : Below w.heap.size w (w.alloc (.cells #[.string ⟨#[108, 111, 97, 100]⟩, .int .i64 d, .int .i64 a, .int .i64 b, .int .u32 i, .int .i64 t] 53)) := (Below.refl _ _).alloc (Nat.le_refl _) _
  have B2 : Below (w.alloc (.cells #[.string ⟨#[108, 111, 97, 100]⟩, .int .i64 d, .int .i64 a, .int .i64 b, .int .u32 i, .int .i64 t] 53)).heap.size (w.alloc (.cells #[.string ⟨#[108, 111, 97, 100]⟩, .int .i64 d, .int .i64 a, .int .i64 b, .int .u32 i, .int .i64 t] 53)) ((w.alloc (.cells #[.string ⟨#[108, 111, 97, 100]⟩, .int .i64 d, .int .i64 a, .int .i64 b, .int .u32 i, .int .i64 t] 53)).alloc (.cells #[.int .i64 0, .int .u32 0, .int .u32 0, .int .i64 0, .int .u32 0, .bool false, .int .u32 0] 62)) := (Below.refl _ _).alloc (Nat.le_refl _) _
  have O := (OAt.new w ⟨#[108, 111, 97, 100]⟩ d a b i t).stays B2
  have G0 := (G.stays B1).stays B2
  have XB := XBox.new (w.alloc (.cells #[.string ⟨#[108, 111, 97, 100]⟩, .int .i64 d, .int .i64 a, .int .i64 b, .int .u32 i, .int .i64 t] 53))
  rw [World.size_alloc] at XB
  have hB0 : Hid (Below w.heap.size w ((w.alloc (.cells #[.string ⟨#[108, 111, 97, 100]⟩, .int .i64 d, .int .i64 a, .int .i64 b, .int .u32 i, .int .i64 t] 53)).alloc (.cells #[.int .i64 0, .int .u32 0, .int .u32 0, .int .i64 0, .int .u32 0, .bool false, .int .u32 0] 62))) := B1.trans (B2.mono B1.size)
  have hmw := G.lt
  clear B1 B2
  have ha' : (a : Int) < 64 := by omega
  have hmx := maxw b hbv
  have hlo := lo_bd (X a + i)
  have HR : Hid (∀ W, Below w.heap.size w W → RamIs W sb bp bw bh N m wt ht) := fun W hW => R.stays hW (Nat.le_refl _)
  have HE : Hid (∀ W, Below w.heap.size w W → Eg pe W) := fun W hW => E.stays hW
  obtain ⟨sz, hsz⟩ : ∃ sz, sz = (if b < 0 then -b else b) := ⟨_, rfl⟩
  rw [← hsz] at hc hmx
  have s0 : -9223372036854775808 ≤ sz := by omega
  have s1 : sz ≤ 9223372036854775807 := by omega
  clear hsz R E
  go_enter Tryd.func18, Tryd.ntmps18
  go_upto_region 9 with fail
  clear G
  generalize ((w.alloc (.cells #[.string ⟨#[108, 111, 97, 100]⟩, .int .i64 d, .int .i64 a, .int .i64 b, .int .u32 i, .int .i64 t] 53)).alloc (.cells #[.int .i64 0, .int .u32 0, .int .u32 0, .int .i64 0, .int .u32 0, .bool false, .int .u32 0] 62)) = V at *
  obtain ⟨k0, k1, k2, k3, k4, k5⟩ := id O
  have hnV := XB.lt
  have xa := G0.x a ha
  refine wp_region_phase 28 [(0, 0), (1, 0), (2, 0), (3, 0), (4, 0), (5, 1), (6, 0), (7, 0), (8, 0), (9, 1), (10, 0), (11, 1), (12, 0), (13, 0), (14, 1), (15, 0), (16, 1), (17, 0), (18, 0), (19, 0), (20, 1), (21, 0), (22, 2), (23, 0), (24, 0), (25, 0), (26, 0), (27, 0)] (fun W => W.cell? ⟨w.heap.size, 2, none⟩ = some (.int .i64 a) ∧ W.cell? ⟨w.heap.size, 3, none⟩ = some (.int .i64 b) ∧ W.cell? ⟨w.heap.size, 4, none⟩ = some (.int .u32 i) ∧ W.cell? ⟨mb, 1 + a, none⟩ = some (.int .u32 (X a))) (by kernel_rfl) (by kernel_rfl) (fun _ _ _ d _ h => by cases d <;> exact h) ⟨k2, k3, k4, xa⟩ ?_
  repeat (first | (refine wpPlanZ_free (by rfl) (by rfl) (fun W => by (go_simp; try with_reducible rfl)) (fun K hK => ?_); go_simp; refine hK _ ?_; clear hK K) | (refine wpPlanZ_quiet (by rfl) (by rfl) (fun W hW => by (obtain ⟨z0, z1, z2, z3⟩ := hW; go_simp; try with_reducible rfl)) (fun K hK => ?_); go_simp; refine hK _ ?_; clear hK K))
  refine wpPlanZ_serial (by rfl) (by rfl) (fun K hK => ?_)
  go_simp
  rw [show IntKind.u32.wrap (X a + i) = lo (X a + i) from wrap_u32 _]
  try rw [hmx]
  refine (gload_no pe (HE.out _ hB0.out.drew) G0.drew (lo (X a + i)) sz (decide (b < 0)) hlo.1 hlo.2 s0 s1 hc).mono ?_
  rintro e w2 ⟨rfl, hb2⟩
  have hB2 : Hid (Below w.heap.size w w2) := hB0.out.drew.trans (hb2.mono hB0.out.size)
  have O2 := O.drew.stays hb2
  have XB2 := XB.drew.stays hb2
  have xa2 := (G0.drew.stays hb2).x a ha
  refine hK _ _ (fun _ => ⟨O2.c2, O2.c3, O2.c4, xa2⟩) ?_
  clear hK K k0 k1 k2 k3 k4 k5 xa xa2 hnV XB O G0 hb2 hmx
  have XB := XB2
  obtain ⟨k0, k1, k2, k3, k4, k5⟩ := O2
  have hnV := XB.lt
  repeat (first | (refine wpPlanZ_free (by rfl) (by rfl) (fun W => by (go_simp; try with_reducible rfl)) (fun K hK => ?_); go_simp; refine hK _ ?_; clear hK K) | (refine wpPlanZ_quiet (by rfl) (by rfl) (fun W hW => by (obtain ⟨z0, z1, z2, z3⟩ := hW; go_simp; try with_reducible rfl)) (fun K hK => ?_); go_simp; refine hK _ ?_; clear hK K))
  refine wpPlanZ_nil ?_
  obtain ⟨u0, y0⟩ := XB.c 0 (by omega)
  obtain ⟨u1, y1⟩ := XB.c 1 (by omega)
  obtain ⟨u2, y2⟩ := XB.c 2 (by omega)
  obtain ⟨u3, y3⟩ := XB.c 3 (by omega)
  obtain ⟨u4, y4⟩ := XB.c 4 (by omega)
  obtain ⟨u5, y5⟩ := XB.c 5 (by omega)
  obtain ⟨u6, y6⟩ := XB.c 6 (by omega)
  have fz := XB.f
  go_wp2
  refine bodyPost_ret (results_cell1G (A := ⟨w.heap.size + 1, 0, none⟩) rfl _ _ _ rfl (ef_put XB _ _ _ _ _ _ _)) rfl ?_
  exact ⟨rfl, ef_below hB2.out (by omega) _ _ _ _ _ _ _⟩
set_option maxRecDepth 100000 in
set_option maxHeartbeats 4000000 in
theorem read_25 (G : GAt w base mb stb sb X p vi) (a : Nat) (ha : a < 64) (d b i t : Int) :
    Calls Tryd.prog 18 #[.pointer (some ⟨mb, 0, none⟩), .agg #[.string ⟨#[105, 102]⟩, .int .i64 d, .int .i64 a, .int .i64 b, .int .u32 i, .int .i64 t]] w fun e w' => e = .returned (.tuple #[.agg #[.int .i64 0, .int .u32 0, .int .u32 0, .int .i64 0, .int .u32 0, .bool (decide (X a ≠ 0)), .int .u32 i], .bool true]) ∧ Below w.heap.size w w' := by
  have B1 : Below w.heap.size w (w.alloc (.cells #[.string ⟨#[105, 102]⟩, .int .i64 d, .int .i64 a, .int .i64 b, .int .u32 i, .int .i64 t] 53)) := (Below.refl _ _).alloc (Nat.le_refl _) _
  have B2 : Below (w.alloc (.cells #[.string ⟨#[105, 102]⟩, .int .i64 d, .int .i64 a, .int .i64 b, .int .u32 i, .int .i64 t] 53)).heap.size (w.alloc (.cells #[.string ⟨#[105, 102]⟩, .int .i64 d, .int .i64 a, .int .i64 b, .int .u32 i, .int .i64 t] 53)) ((w.alloc (.cells #[.string ⟨#[105, 102]⟩, .int .i64 d, .int .i64 a, .int .i64 b, .int .u32 i, .int .i64 t] 53)).alloc (.cells #[.int .i64 0, .int .u32 0, .int .u32 0, .int .i64 0, .int .u32 0, .bool false, .int .u32 0] 62)) := (Below.refl _ _).alloc (Nat.le_refl _) _
  have O := (OAt.new w ⟨#[105, 102]⟩ d a b i t).stays B2
  have G0 := (G.stays B1).stays B2
  have XB := XBox.new (w.alloc (.cells #[.string ⟨#[105, 102]⟩, .int .i64 d, .int .i64 a, .int .i64 b, .int .u32 i, .int .i64 t] 53))
  rw [World.size_alloc] at XB
  have hB0 : Hid (Below w.heap.size w ((w.alloc (.cells #[.string ⟨#[105, 102]⟩, .int .i64 d, .int .i64 a, .int .i64 b, .int .u32 i, .int .i64 t] 53)).alloc (.cells #[.int .i64 0, .int .u32 0, .int .u32 0, .int .i64 0, .int .u32 0, .bool false, .int .u32 0] 62))) := B1.trans (B2.mono B1.size)
  have hmw := G.lt
  clear B1 B2
  have ha' : (a : Int) < 64 := by omega
  go_enter Tryd.func18, Tryd.ntmps18
  go_upto_region 15 with fail
  clear G
  generalize ((w.alloc (.cells #[.string ⟨#[105, 102]⟩, .int .i64 d, .int .i64 a, .int .i64 b, .int .u32 i, .int .i64 t] 53)).alloc (.cells #[.int .i64 0, .int .u32 0, .int .u32 0, .int .i64 0, .int .u32 0, .bool false, .int .u32 0] 62)) = V at *
  obtain ⟨k0, k1, k2, k3, k4, k5⟩ := id O
  have hnV := XB.lt
  have xa := G0.x a ha
  obtain ⟨u0, y0⟩ := XB.c 0 (by omega)
  obtain ⟨u1, y1⟩ := XB.c 1 (by omega)
  obtain ⟨u2, y2⟩ := XB.c 2 (by omega)
  obtain ⟨u3, y3⟩ := XB.c 3 (by omega)
  obtain ⟨u4, y4⟩ := XB.c 4 (by omega)
  obtain ⟨u5, y5⟩ := XB.c 5 (by omega)
  obtain ⟨u6, y6⟩ := XB.c 6 (by omega)
  have fz := XB.f
  refine wp_region_phase 11 [(0, 0), (1, 0), (2, 1), (3, 0), (4, 0), (5, 0), (6, 1), (7, 0), (8, 0), (9, 1), (10, 0), (11, 2), (12, 0)] (fun W => W.cell? ⟨w.heap.size, 2, none⟩ = some (.int .i64 a) ∧ W.cell? ⟨w.heap.size, 4, none⟩ = some (.int .u32 i) ∧ W.cell? ⟨mb, 1 + a, none⟩ = some (.int .u32 (X a))) (by kernel_rfl) (by kernel_rfl) (fun _ _ _ d _ h => by cases d <;> exact h) ⟨k2, k4, xa⟩ ?_
  repeat (first | (refine wpPlanZ_free (by rfl) (by rfl) (fun W => by (go_simp; try with_reducible rfl)) (fun K hK => ?_); go_simp; refine hK _ ?_; clear hK K) | (refine wpPlanZ_quiet (by rfl) (by rfl) (fun W hW => by (obtain ⟨z0, z1, z2⟩ := hW; go_simp; try with_reducible rfl)) (fun K hK => ?_); go_simp; refine hK _ ?_; clear hK K))
  refine wpPlanZ_serial (by rfl) (by rfl) (fun K hK => ?_)
  go_simp
  refine hK _ _ (fun h => absurd h (by decide)) ?_
  clear hK K
  refine wpPlanZ_free (by rfl) (by rfl) (fun W => by (go_simp; try with_reducible rfl)) (fun K hK => ?_); go_simp; refine hK _ ?_; clear hK K
  refine wpPlanZ_nil ?_
  go_wp2
  have hdc : (X a != 0) = decide (X a ≠ 0) := by by_cases h : X a = 0 <;> simp [h]
  rw [hdc]
  refine bodyPost_ret (results_cell1G (A := ⟨w.heap.size + 1, 0, none⟩) rfl _ _ _ rfl (ef_putD XB _ _ _ _ _ _ _)) rfl ?_
  exact ⟨rfl, (ef_below hB0.out (by omega) _ _ _ _ _ _ _).drew⟩
set_option maxRecDepth 100000 in
set_option maxHeartbeats 4000000 in
theorem read_26 (G : GAt w base mb stb sb X p vi) (a d b i t : Int) :
    Calls Tryd.prog 18 #[.pointer (some ⟨mb, 0, none⟩), .agg #[.string ⟨#[111, 117, 116]⟩, .int .i64 d, .int .i64 a, .int .i64 b, .int .u32 i, .int .i64 t]] w fun e w' => e = .returned (.tuple #[.agg #[.int .i64 0, .int .u32 0, .int .u32 0, .int .i64 0, .int .u32 0, .bool true, .int .u32 i], .bool true]) ∧ Below w.heap.size w w' := by
  have B1 : Below w.heap.size w (w.alloc (.cells #[.string ⟨#[111, 117, 116]⟩, .int .i64 d, .int .i64 a, .int .i64 b, .int .u32 i, .int .i64 t] 53)) := (Below.refl _ _).alloc (Nat.le_refl _) _
  have B2 : Below (w.alloc (.cells #[.string ⟨#[111, 117, 116]⟩, .int .i64 d, .int .i64 a, .int .i64 b, .int .u32 i, .int .i64 t] 53)).heap.size (w.alloc (.cells #[.string ⟨#[111, 117, 116]⟩, .int .i64 d, .int .i64 a, .int .i64 b, .int .u32 i, .int .i64 t] 53)) ((w.alloc (.cells #[.string ⟨#[111, 117, 116]⟩, .int .i64 d, .int .i64 a, .int .i64 b, .int .u32 i, .int .i64 t] 53)).alloc (.cells #[.int .i64 0, .int .u32 0, .int .u32 0, .int .i64 0, .int .u32 0, .bool false, .int .u32 0] 62)) := (Below.refl _ _).alloc (Nat.le_refl _) _
  have O := (OAt.new w ⟨#[111, 117, 116]⟩ d a b i t).stays B2
  have G0 := (G.stays B1).stays B2
  have XB := XBox.new (w.alloc (.cells #[.string ⟨#[111, 117, 116]⟩, .int .i64 d, .int .i64 a, .int .i64 b, .int .u32 i, .int .i64 t] 53))
  rw [World.size_alloc] at XB
  have hB0 : Hid (Below w.heap.size w ((w.alloc (.cells #[.string ⟨#[111, 117, 116]⟩, .int .i64 d, .int .i64 a, .int .i64 b, .int .u32 i, .int .i64 t] 53)).alloc (.cells #[.int .i64 0, .int .u32 0, .int .u32 0, .int .i64 0, .int .u32 0, .bool false, .int .u32 0] 62))) := B1.trans (B2.mono B1.size)
  have hmw := G.lt
  clear B1 B2
  go_enter Tryd.func18, Tryd.ntmps18
  go_upto_region 17 with fail
  clear G
  generalize ((w.alloc (.cells #[.string ⟨#[111, 117, 116]⟩, .int .i64 d, .int .i64 a, .int .i64 b, .int .u32 i, .int .i64 t] 53)).alloc (.cells #[.int .i64 0, .int .u32 0, .int .u32 0, .int .i64 0, .int .u32 0, .bool false, .int .u32 0] 62)) = V at *
  obtain ⟨k0, k1, k2, k3, k4, k5⟩ := id O
  have hnV := XB.lt
  obtain ⟨u0, y0⟩ := XB.c 0 (by omega)
  obtain ⟨u1, y1⟩ := XB.c 1 (by omega)
  obtain ⟨u2, y2⟩ := XB.c 2 (by omega)
  obtain ⟨u3, y3⟩ := XB.c 3 (by omega)
  obtain ⟨u4, y4⟩ := XB.c 4 (by omega)
  obtain ⟨u5, y5⟩ := XB.c 5 (by omega)
  obtain ⟨u6, y6⟩ := XB.c 6 (by omega)
  have fz := XB.f
  go_wp2
  refine bodyPost_ret (results_cell1G (A := ⟨w.heap.size + 1, 0, none⟩) rfl _ _ _ rfl (ef_put XB _ _ _ _ _ _ _)) rfl ?_
  exact ⟨rfl, ef_below hB0.out (by omega) _ _ _ _ _ _ _⟩
set_option maxRecDepth 100000 in
set_option maxHeartbeats 4000000 in
theorem read_27 (G : GAt w base mb stb sb X p vi) (a : Nat) (ha : a < 64) (d b i t : Int) :
    Calls Tryd.prog 18 #[.pointer (some ⟨mb, 0, none⟩), .agg #[.string ⟨#[111, 117, 116, 114]⟩, .int .i64 d, .int .i64 a, .int .i64 b, .int .u32 i, .int .i64 t]] w fun e w' => e = .returned (.tuple #[.agg #[.int .i64 0, .int .u32 0, .int .u32 0, .int .i64 0, .int .u32 0, .bool true, .int .u32 (X a)], .bool true]) ∧ Below w.heap.size w w' := by
  have B1 : Below w.heap.size w (w.alloc (.cells #[.string ⟨#[111, 117, 116, 114]⟩, .int .i64 d, .int .i64 a, .int .i64 b, .int .u32 i, .int .i64 t] 53)) := (Below.refl _ _).alloc (Nat.le_refl _) _
  have B2 : Below (w.alloc (.cells #[.string ⟨#[111, 117, 116, 114]⟩, .int .i64 d, .int .i64 a, .int .i64 b, .int .u32 i, .int .i64 t] 53)).heap.size (w.alloc (.cells #[.string ⟨#[111, 117, 116, 114]⟩, .int .i64 d, .int .i64 a, .int .i64 b, .int .u32 i, .int .i64 t] 53)) ((w.alloc (.cells #[.string ⟨#[111, 117, 116, 114]⟩, .int .i64 d, .int .i64 a, .int .i64 b, .int .u32 i, .int .i64 t] 53)).alloc (.cells #[.int .i64 0, .int .u32 0, .int .u32 0, .int .i64 0, .int .u32 0, .bool false, .int .u32 0] 62)) := (Below.refl _ _).alloc (Nat.le_refl _) _
  have O := (OAt.new w ⟨#[111, 117, 116, 114]⟩ d a b i t).stays B2
  have G0 := (G.stays B1).stays B2
  have XB := XBox.new (w.alloc (.cells #[.string ⟨#[111, 117, 116, 114]⟩, .int .i64 d, .int .i64 a, .int .i64 b, .int .u32 i, .int .i64 t] 53))
  rw [World.size_alloc] at XB
  have hB0 : Hid (Below w.heap.size w ((w.alloc (.cells #[.string ⟨#[111, 117, 116, 114]⟩, .int .i64 d, .int .i64 a, .int .i64 b, .int .u32 i, .int .i64 t] 53)).alloc (.cells #[.int .i64 0, .int .u32 0, .int .u32 0, .int .i64 0, .int .u32 0, .bool false, .int .u32 0] 62))) := B1.trans (B2.mono B1.size)
  have hmw := G.lt
  clear B1 B2
  have ha' : (a : Int) < 64 := by omega
  go_enter Tryd.func18, Tryd.ntmps18
  go_upto_region 19 with fail
  clear G
  generalize ((w.alloc (.cells #[.string ⟨#[111, 117, 116, 114]⟩, .int .i64 d, .int .i64 a, .int .i64 b, .int .u32 i, .int .i64 t] 53)).alloc (.cells #[.int .i64 0, .int .u32 0, .int .u32 0, .int .i64 0, .int .u32 0, .bool false, .int .u32 0] 62)) = V at *
  obtain ⟨k0, k1, k2, k3, k4, k5⟩ := id O
  have hnV := XB.lt
  have xa := G0.x a ha
  obtain ⟨u0, y0⟩ := XB.c 0 (by omega)
  obtain ⟨u1, y1⟩ := XB.c 1 (by omega)
  obtain ⟨u2, y2⟩ := XB.c 2 (by omega)
  obtain ⟨u3, y3⟩ := XB.c 3 (by omega)
  obtain ⟨u4, y4⟩ := XB.c 4 (by omega)
  obtain ⟨u5, y5⟩ := XB.c 5 (by omega)
  obtain ⟨u6, y6⟩ := XB.c 6 (by omega)
  have fz := XB.f
  refine wp_region_phase 8 [(0, 0), (1, 0), (2, 1), (3, 0), (4, 0), (5, 0), (6, 1), (7, 0), (8, 2), (9, 0)] (fun W => W.cell? ⟨w.heap.size, 2, none⟩ = some (.int .i64 a) ∧ W.cell? ⟨mb, 1 + a, none⟩ = some (.int .u32 (X a))) (by kernel_rfl) (by kernel_rfl) (fun _ _ _ d _ h => by cases d <;> exact h) ⟨k2, xa⟩ ?_
  repeat (first | (refine wpPlanZ_free (by rfl) (by rfl) (fun W => by (go_simp; try with_reducible rfl)) (fun K hK => ?_); go_simp; refine hK _ ?_; clear hK K) | (refine wpPlanZ_quiet (by rfl) (by rfl) (fun W hW => by (obtain ⟨z0, z1⟩ := hW; go_simp; try with_reducible rfl)) (fun K hK => ?_); go_simp; refine hK _ ?_; clear hK K))
  refine wpPlanZ_serial (by rfl) (by rfl) (fun K hK => ?_)
  go_simp
  refine hK _ _ (fun h => absurd h (by decide)) ?_
  clear hK K
  refine wpPlanZ_free (by rfl) (by rfl) (fun W => by (go_simp; try with_reducible rfl)) (fun K hK => ?_); go_simp; refine hK _ ?_; clear hK K
  refine wpPlanZ_nil ?_
  go_wp2
  refine bodyPost_ret (results_cell1G (A := ⟨w.heap.size + 1, 0, none⟩) rfl _ _ _ rfl (ef_putD XB _ _ _ _ _ _ _)) rfl ?_
  exact ⟨rfl, (ef_below hB0.out (by omega) _ _ _ _ _ _ _).drew⟩
set_option maxRecDepth 100000 in
set_option maxHeartbeats 4000000 in
theorem read_sum (G : GAt w base mb stb sb X p vi) (s : ByteArray) (h21 : (s.toList == [111, 118, 101, 114, 43]) = false) (h22 : (s.toList == [111, 118, 101, 114, 45]) = false) (h23 : (s.toList == [108, 111, 97, 100]) = false) (h24 : (s.toList == [115, 116, 111, 114, 101]) = false) (h25 : (s.toList == [105, 102]) = false) (h26 : (s.toList == [111, 117, 116]) = false) (h27 : (s.toList == [111, 117, 116, 114]) = false) (d a b i t v : Int) (hr : ∀ W, GAt W base mb stb sb X p vi → Calls Tryd.prog 31 #[.pointer (some ⟨mb, 0, none⟩), .agg #[.string s, .int .i64 d, .int .i64 a, .int .i64 b, .int .u32 i, .int .i64 t]] W fun e w' => e = .returned (.int .u32 v) ∧ Below W.heap.size W w') :
    Calls Tryd.prog 18 #[.pointer (some ⟨mb, 0, none⟩), .agg #[.string s, .int .i64 d, .int .i64 a, .int .i64 b, .int .u32 i, .int .i64 t]] w fun e w' => e = .returned (.tuple #[.agg #[.int .i64 d, .int .u32 v, .int .u32 0, .int .i64 0, .int .u32 0, .bool false, .int .u32 0], .bool true]) ∧ Below w.heap.size w w' := by
  have B1 : Below w.heap.size w (w.alloc (.cells #[.string s, .int .i64 d, .int .i64 a, .int .i64 b, .int .u32 i, .int .i64 t] 53)) := (Below.refl _ _).alloc (Nat.le_refl _) _
  have B2 : Below (w.alloc (.cells #[.string s, .int .i64 d, .int .i64 a, .int .i64 b, .int .u32 i, .int .i64 t] 53)).heap.size (w.alloc (.cells #[.string s, .int .i64 d, .int .i64 a, .int .i64 b, .int .u32 i, .int .i64 t] 53)) ((w.alloc (.cells #[.string s, .int .i64 d, .int .i64 a, .int .i64 b, .int .u32 i, .int .i64 t] 53)).alloc (.cells #[.int .i64 0, .int .u32 0, .int .u32 0, .int .i64 0, .int .u32 0, .bool false, .int .u32 0] 62)) := (Below.refl _ _).alloc (Nat.le_refl _) _
  have O := (OAt.new w s d a b i t).stays B2
  have G0 := (G.stays B1).stays B2
  have XB := XBox.new (w.alloc (.cells #[.string s, .int .i64 d, .int .i64 a, .int .i64 b, .int .u32 i, .int .i64 t] 53))
  rw [World.size_alloc] at XB
  have hB0 : Hid (Below w.heap.size w ((w.alloc (.cells #[.string s, .int .i64 d, .int .i64 a, .int .i64 b, .int .u32 i, .int .i64 t] 53)).alloc (.cells #[.int .i64 0, .int .u32 0, .int .u32 0, .int .i64 0, .int .u32 0, .bool false, .int .u32 0] 62))) := B1.trans (B2.mono B1.size)
  have hmw := G.lt
  clear B1 B2
  go_enter Tryd.func18, Tryd.ntmps18
  go_upto_region 20 with fail
  clear G
  generalize ((w.alloc (.cells #[.string s, .int .i64 d, .int .i64 a, .int .i64 b, .int .u32 i, .int .i64 t] 53)).alloc (.cells #[.int .i64 0, .int .u32 0, .int .u32 0, .int .i64 0, .int .u32 0, .bool false, .int .u32 0] 62)) = V at *
  obtain ⟨k0, k1, k2, k3, k4, k5⟩ := id O
  have hnV := XB.lt
  refine wp_region_phase 6 [(0, 0), (1, 1), (2, 0), (3, 1), (4, 2), (5, 0), (6, 2), (7, 0)] (fun W => OAt W w.heap.size s d a b i t) (by kernel_rfl) (by kernel_rfl) (fun _ _ _ d _ h => by cases d <;> exact h) O.drew ?_
  refine wpPlanZ_free (by rfl) (by rfl) (fun W => by (go_simp; try with_reducible rfl)) (fun K hK => ?_); go_simp; refine hK _ ?_; clear hK K
  refine wpPlanZ_quiet (by rfl) (by rfl) (fun W hW => by (obtain ⟨z0, z1, z2, z3, z4, z5⟩ := hW; go_simp; try with_reducible rfl)) (fun K hK => ?_); go_simp; refine hK _ ?_; clear hK K
  refine wpPlanZ_free (by rfl) (by rfl) (fun W => by (go_simp; try with_reducible rfl)) (fun K hK => ?_); go_simp; refine hK _ ?_; clear hK K
  refine wpPlanZ_quiet (by rfl) (by rfl) (fun W hW => by (obtain ⟨z0, z1, z2, z3, z4, z5⟩ := hW; go_simp; try with_reducible rfl)) (fun K hK => ?_); go_simp; refine hK _ ?_; clear hK K
  refine wpPlanZ_serial (by rfl) (by rfl) (fun K hK => ?_)
  go_simp
  refine (hr _ G0.drew).mono ?_
  rintro e w2 ⟨rfl, hb2⟩
  have hB2 : Hid (Below w.heap.size w w2) := hB0.out.drew.trans (hb2.mono hB0.out.size)
  have O2 := O.drew.stays hb2
  have XB2 := XB.drew.stays hb2
  refine hK _ _ (fun _ => O2) ?_
  clear hK K k0 k1 k2 k3 k4 k5 hnV XB O G0 hb2 hr
  have XB := XB2
  have hnV := XB.lt
  obtain ⟨u0, y0⟩ := XB.c 0 (by omega)
  obtain ⟨u1, y1⟩ := XB.c 1 (by omega)
  obtain ⟨u2, y2⟩ := XB.c 2 (by omega)
  obtain ⟨u3, y3⟩ := XB.c 3 (by omega)
  obtain ⟨u4, y4⟩ := XB.c 4 (by omega)
  obtain ⟨u5, y5⟩ := XB.c 5 (by omega)
  obtain ⟨u6, y6⟩ := XB.c 6 (by omega)
  have fz := XB.f
  refine wpPlanZ_free (by rfl) (by rfl) (fun W => by (go_simp; try with_reducible rfl)) (fun K hK => ?_); go_simp; refine hK _ ?_; clear hK K
  refine wpPlanZ_serial (by rfl) (by rfl) (fun K hK => ?_)
  go_simp
  refine hK _ _ (fun h => absurd h (by decide)) ?_
  clear hK K
  refine wpPlanZ_free (by rfl) (by rfl) (fun W => by (go_simp; try with_reducible rfl)) (fun K hK => ?_); go_simp; refine hK _ ?_; clear hK K
  refine wpPlanZ_nil ?_
  go_wp2
  refine bodyPost_ret (results_cell1G (A := ⟨w.heap.size + 1, 0, none⟩) rfl _ _ _ rfl (ef_put XB _ _ _ _ _ _ _)) rfl ?_
  exact ⟨rfl, ef_below hB2.out (by omega) _ _ _ _ _ _ _⟩
end
end Go.Proofs.YtkehhlibkebomaaDoor
