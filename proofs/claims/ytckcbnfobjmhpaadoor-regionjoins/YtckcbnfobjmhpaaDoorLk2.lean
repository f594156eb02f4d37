/-
  What stands at a place.
-/
import Derived.Test.YtckcbnfobjmhpaaDoorLk1
namespace Go.Proofs.YtckcbnfobjmhpaaDoor
open Go.RowKit Go.Maps
open Num
set_option linter.unusedVariables false
section
variable {w0 w : World} {fb : Nat} {pc : Int} {sb most n st bp bw bh N : Nat} {m : Nat → Int} {wt ht : Int → Bool} {vi : Value}
theorem Er.stays2 {ps pa pf : Addr} {w w' : World} (E : Er ps pa pf w) (h : Below w.heap.size w w') : Er ps pa pf w' :=
  ⟨K.cell_stays h (Nat.le_refl _) E.s, K.cell_stays h (Nat.le_refl _) E.a, K.cell_stays h (Nat.le_refl _) E.f⟩
theorem chk_far {a : Int} (h4 : a % 4 = 0) (h : 16384 ≤ a) : chk a 4 = 3 := by
  unfold chk; rw [if_neg (by omega), if_neg (by omega), if_pos h]
theorem chk_in {a : Int} (h4 : a % 4 = 0) (h : a < 16384) : chk a 4 = 0 := by
  unfold chk; rw [if_neg (by omega), if_neg (by omega), if_neg (by omega)]
set_option maxRecDepth 100000 in
set_option maxHeartbeats 4000000 in
/-- beyond memory -/
theorem look_far (ps pa pf : Addr) (E : Er ps pa pf w0) (F : FAt w0 w fb pc sb most n st m vi) (fu : Nat) (hpc : 0 ≤ pc) (hpc1 : pc < 16384) (h4 : pc % 4 = 0) (hn : n ≤ 24) (hfu : fu ≤ 1) (hm : most ≤ 24) (h : n + fu < most) (hf : many pc ≤ n + fu) :
    Calls Tryd.prog 67 #[.pointer (some ⟨fb, 0, none⟩), .int .i64 fu] w fun e w' => e = .returned (.tuple #[K.ins 0 0 0 0 0, .string ⟨#[]⟩, .bool false]) ∧ Below w.heap.size w w' := by
  have bA : Below w.heap.size w (w.alloc (.cells #[.int .i64 0, .int .i64 0, .int .i64 0, .int .i64 0, .int .u32 0] 65)) := (Below.refl _ _).alloc (Nat.le_refl _) _
  have hfar : 16384 ≤ pc + 4 * ((n : Int) + fu) := by unfold many at hf; omega
  have hl : ∀ W, Below w0.heap.size w0 W → _ := fun W hW => load_no ps pa pf (E.stays2 hW) (.pointer (some ⟨sb, 0, none⟩)) (pc + 4 * ((n : Int) + fu)) 4 false (by omega) (by omega) (by omega) (by omega) (by rw [chk_far (by omega) hfar]; decide)
  rw [chk_far (by omega) hfar] at hl
  generalize erA ps pa pf 3 = er at hl
  have FA := F.stays bA
  have Z := K.ZAt.alloc w
  have hl2 := hl _ FA.be.drew
  have hwr : IntKind.u32.wrap (pc + IntKind.u32.wrap (4 * IntKind.u32.wrap ((n : Int) + fu))) = pc + 4 * ((n : Int) + fu) := by
    simp only [IntKind.wrap_u32]; omega
  rw [← hwr] at hl2
  have c1 := F.c1
  have c4 := F.c4
  have hlt := F.lt
  obtain ⟨p, c, rfl⟩ := F.len
  clear F hl E hf hwr hfar
  have hn' : (n : Int) ≤ 24 := by omega
  have hfu' : (fu : Int) ≤ 1 := by omega
  have hm' : (most : Int) ≤ 24 := by omega
  have hd : decide ((most : Int) ≤ (n : Int) + fu) = false := by simp; omega
  have hB : Hid (Below w.heap.size w (w.alloc (.cells #[.int .i64 0, .int .i64 0, .int .i64 0, .int .i64 0, .int .u32 0] 65))) := bA
  have hF : Hid (FAt w0 (w.alloc (.cells #[.int .i64 0, .int .i64 0, .int .i64 0, .int .i64 0, .int .u32 0] 65)) fb pc sb most n st m (.slice p n c)) := FA
  have hZ : Hid (K.ZAt w.heap.size (w.alloc (.cells #[.int .i64 0, .int .i64 0, .int .i64 0, .int .i64 0, .int .u32 0] 65))) := Z
  clear bA FA Z
  go_enter Tryd.func67, Tryd.ntmps67
  go_upto_region 4 with fail
  generalize w.alloc (.cells #[.int .i64 0, .int .i64 0, .int .i64 0, .int .i64 0, .int .u32 0] 65) = w1 at *
  clear c1 c4 hlt
  have q0 := hF.out.c0
  have q3 := hF.out.c3
  refine wp_region_phase 19 [(0, 0), (1, 0), (2, 0), (3, 1), (4, 0), (5, 0), (6, 0), (7, 0), (8, 1), (9, 0), (10, 0), (11, 0), (12, 0), (13, 2), (14, 0), (15, 0), (16, 0), (17, 0), (18, 0)] (fun W => W.cell? ⟨fb, 0, none⟩ = some (.int .u32 pc) ∧ W.cell? ⟨fb, 3, none⟩ = some (.pointer (some ⟨sb, 0, none⟩))) (by kernel_rfl) (by kernel_rfl) (fun _ _ _ d _ h => by cases d <;> exact h) ⟨q0, q3⟩ ?_
  repeat (first | (refine wpPlanZ_free (by rfl) (by rfl) (fun W => by (go_simp; try with_reducible rfl)) (fun K hK => ?_); go_simp; refine hK _ ?_; clear hK K) | (refine wpPlanZ_quiet (by rfl) (by rfl) (fun W hW => by (obtain ⟨q0, q3⟩ := hW; go_simp; try with_reducible rfl)) (fun K hK => ?_); go_simp; refine hK _ ?_; clear hK K))
  refine wpPlanZ_serial (by rfl) (by rfl) (fun K hK => ?_)
  go_simp
  refine hl2.mono ?_
  rintro e wx ⟨rfl, rfl⟩
  refine hK _ _ (fun _ => ⟨q0, q3⟩) ?_
  clear hK K
  repeat (first | (refine wpPlanZ_free (by rfl) (by rfl) (fun W => by (go_simp; try with_reducible rfl)) (fun K hK => ?_); go_simp; refine hK _ ?_; clear hK K))
  refine wpPlanZ_nil ?_
  obtain ⟨z0, z1, z2, z3, z4, zf⟩ := hZ.out
  go_wp2
  exact bodyPost_ret (results_cell2 Tryd.results67 _ _ _ (A := ⟨w.heap.size, 0, none⟩) rfl (ins_stored_drew hZ.out)) rfl ⟨rfl, (below_put5 hB.out (Nat.le_refl _)).drew⟩
end
end Go.Proofs.YtckcbnfobjmhpaaDoor
