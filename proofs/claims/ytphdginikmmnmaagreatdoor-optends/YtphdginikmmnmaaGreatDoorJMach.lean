/-
  The document's NewMachine.
-/
import Derived.Deep.MidRow
import Derived.Test.YtphdginikmmnmaaGreatDoorJNew
namespace Go.Proofs.YtphdginikmmnmaaGreatDoor
open Go.RowKit Go.Maps
open Num
set_option linter.unusedVariables false
/-- a machine in its box: 64 registers, and where its memory is -/
structure MBox (w : World) (mb : Nat) (X : Nat → Int) (p : Value) : Prop where
  c : ∀ j, j < 64 → w.cell? ⟨mb, j, none⟩ = some (.int .u32 (X j))
  cp : w.cell? ⟨mb, 64, none⟩ = some p
  fz : ∀ j, w.frozen? ⟨mb, j, none⟩ = false
theorem MBox.lt {w : World} {mb : Nat} {X : Nat → Int} {p : Value} (M : MBox w mb X p) : mb < w.heap.size := World.block_lt_of_cell? _ _ M.cp
theorem MBox.block {w w' : World} {mb : Nat} {X : Nat → Int} {p : Value} (M : MBox w mb X p) (h : w'.heap[mb]? = w.heap[mb]?) : MBox w' mb X p :=
  ⟨fun j hj => (World.cell?_of_block (a := ⟨mb, j, none⟩) h).trans (M.c j hj), (World.cell?_of_block (a := ⟨mb, 64, none⟩) h).trans M.cp, fun j => (World.frozen?_of_block (a := ⟨mb, j, none⟩) h).trans (M.fz j)⟩
theorem MBox.stays {w w' : World} {mb : Nat} {X : Nat → Int} {p : Value} (M : MBox w mb X p) (h : Below w.heap.size w w') : MBox w' mb X p := M.block (h.block _ M.lt)
theorem MBox.drew {w : World} {mb : Nat} {X : Nat → Int} {p : Value} (M : MBox w mb X p) : MBox w.drew mb X p := ⟨M.c, M.cp, M.fz⟩
theorem ofs_ne' {B i j : Nat} (h : i ≠ j) : (⟨B, i, none⟩ : Addr) ≠ ⟨B, j, none⟩ := by intro e; injection e with e1 e2; exact h e2
theorem MBox.put {w : World} {mb : Nat} {X X' : Nat → Int} {p : Value} (M : MBox w mb X p) (i : Nat) (hi : i < 64) (v : Int) (h : ∀ j, j < 64 → X' j = if j = i then v else X j) : MBox (w.setCell ⟨mb, i, none⟩ (.int .u32 v)) mb X' p := by
  refine ⟨fun j hj => ?_, ?_, fun j => by rw [World.frozen?_setCell]; exact M.fz j⟩
  · rw [h j hj]
    by_cases e : j = i
    · subst e; rw [if_pos rfl]; exact World.cell?_setCell_same _ _ _ (M.c j hj)
    · rw [if_neg e, World.cell?_setCell_other _ _ _ _ (ofs_ne' (Ne.symm e))]; exact M.c j hj
  · rw [World.cell?_setCell_other _ _ _ _ (ofs_ne' (by omega))]; exact M.cp
theorem mach_lit : Tryz.zeroCells123 = (Array.replicate 64 (Value.int .u32 0)).push (.pointer none) := rfl
theorem MBox.new (w : World) (p : Value) : MBox (w.alloc (.cells (Tryz.zeroCells123.setIfInBounds 64 p) 123)) w.heap.size (fun _ => 0) p := by
  have hs : (Array.replicate 64 (Value.int .u32 0)).size = 64 := Array.size_replicate
  refine ⟨fun j hj => ?_, ?_, fun j => World.frozen?_alloc_at _ _ _ _ rfl⟩
  · rw [World.cell?_alloc_at _ _ _ _ rfl, Array.getElem?_setIfInBounds_ne (by omega), mach_lit, Array.getElem?_push, if_neg (by rw [hs]; omega)]
    simp [hj]
  · rw [World.cell?_alloc_at _ _ _ _ rfl, Array.getElem?_setIfInBounds_self, if_pos (by rw [mach_lit, Array.size_push, hs]; omega)]
def nwX (r : Nat → Int) (k n : Nat) : Int := if 1 ≤ n ∧ n < k then r n else 0
theorem nwX_succ (r : Nat → Int) (k n : Nat) (hk : 1 ≤ k) : nwX r (k + 1) n = if n = k then r k else nwX r k n := by
  unfold nwX
  by_cases e : n = k
  · subst e; rw [if_pos rfl, if_pos (by omega)]
  · rw [if_neg e]
    by_cases h : 1 ≤ n ∧ n < k
    · rw [if_pos h, if_pos (by omega)]
    · rw [if_neg h, if_neg (by omega)]
structure Ck1 (W : World) (b j : Nat) (v : Int) : Prop where
  z0 : W.cell? ⟨b, j, none⟩ = some (.int .u32 v)
set_option maxRecDepth 100000 in
set_option maxHeartbeats 2000000 in
theorem newMachine_any {w : World} {rb gb kb hb : Nat} {m : Nat → Int} {wt ht : Int → Bool} (D : DMem w rb gb kb hb m wt ht) (sb : Nat) (r : Nat → Int) (hr : ∀ j, j < 34 → w.cell? ⟨sb, j, none⟩ = some (.int .u32 (r j))) :
    Calls Tryz.prog 68 #[.pointer (some ⟨sb, 0, none⟩), .pointer (some ⟨rb, 0, none⟩)] w fun e w' => ∃ mb rb' gb' kb' hb' : Nat, e = .returned (.pointer (some ⟨mb, 0, none⟩)) ∧ MBox w' mb (nwX r 34) (.pointer (some ⟨rb', 0, none⟩)) ∧ DMem w' rb' gb' kb' hb' m wt ht ∧ Below w.heap.size w w' ∧ (w.heap.size ≤ rb' ∧ w.heap.size ≤ gb' ∧ w.heap.size ≤ kb' ∧ w.heap.size ≤ hb') ∧ rb' < mb ∧ gb' < mb ∧ kb' < mb ∧ hb' < mb := by
  have hcp := copy_any D
  have hsb := World.block_lt_of_cell? _ _ (hr 0 (by omega))
  have HR : Hid (∀ W, Below w.heap.size w W → ∀ j, j < 34 → W.cell? ⟨sb, j, none⟩ = some (.int .u32 (r j))) := fun W hW j hj => (hW.cell (p := ⟨sb, j, none⟩) hsb).trans (hr j hj)
  clear D hr
  go_enter Tryz.func68, Tryz.ntmps68
  go_wp2_with fail
  refine hcp.mono ?_
  rintro e w1 ⟨rb', gb', kb', hb', rfl, D1, b1, l1, l2, l3, l4⟩
  have HD1 : Hid (DMem w1 rb' gb' kb' hb' m wt ht) := D1
  have HB1 : Hid (Below w.heap.size w w1) := b1
  have LL : Hid (w.heap.size ≤ rb' ∧ w.heap.size ≤ gb' ∧ w.heap.size ≤ kb' ∧ w.heap.size ≤ hb') := ⟨l1, l2, l3, l4⟩
  have LT : Hid (rb' < w1.heap.size ∧ gb' < w1.heap.size ∧ kb' < w1.heap.size ∧ hb' < w1.heap.size) := ⟨D1.d.lt (.inl rfl), D1.d.lt (.inr (.inl rfl)), D1.d.lt (.inr (.inr rfl)), World.block_lt_of_cell? _ _ (D1.hc 0 (by omega))⟩
  have M1 := MBox.new w1 (.pointer (some ⟨rb', 0, none⟩))
  have B2 : Below w1.heap.size w1 (w1.alloc (.cells (Tryz.zeroCells123.setIfInBounds 64 (.pointer (some ⟨rb', 0, none⟩))) 123)) := (Below.refl _ _).alloc (Nat.le_refl _) _
  clear hcp D1 b1 l1 l2 l3 l4
  go_upto_region 2 with fail
  generalize w1.alloc (.cells (Tryz.zeroCells123.setIfInBounds 64 (.pointer (some ⟨rb', 0, none⟩))) 123) = W2 at *
  have HM : Hid (MBox W2 w1.heap.size (fun _ => 0) (.pointer (some ⟨rb', 0, none⟩))) := M1
  have HB2 : Hid (Below w1.heap.size w1 W2) := B2
  have hsz : w.heap.size ≤ w1.heap.size := HB1.out.size
  clear M1 B2
  generalize hmb : w1.heap.size = mb at *
  go_wp2
  go_loopw [6] (fun i wr => ∃ j : Nat, 1 ≤ j ∧ j ≤ 32 ∧ i = .int .i64 j ∧ MBox wr mb (nwX r j) (.pointer (some ⟨rb', 0, none⟩)) ∧ Below mb w1 wr) (fun i _ => 32 - (intOf i).toNat)
  case atStart => exact ⟨1, by omega, by omega, rfl, ⟨fun j hj => by rw [show nwX r 1 j = 0 by unfold nwX; rw [if_neg (by omega)]]; exact HM.out.c j hj, HM.out.cp, HM.out.fz⟩, HB2.out⟩
  case round =>
    obtain ⟨j, hj1, hj, rfl, hM, hB⟩ := hrel
    have HMr : Hid (MBox wr mb (nwX r j) (.pointer (some ⟨rb', 0, none⟩))) := hM
    have HBr : Hid (Below mb w1 wr) := hB
    clear hM hB HM HB2
    have e1 := HR.out wr (HB1.out.trans (HBr.out.mono hsz))
    have q1 := HMr.out.lt
    have q2 : sb < wr.heap.size := World.block_lt_of_cell? _ _ (e1 0 (by omega))
    by_cases hlt : j < 32
    · have hlt' : (j : Int) < 32 := by omega
      have hlt64 : (j : Int) < 64 := by omega
      have c1 := e1 j (by omega)
      have g1 := HMr.out.c j (by omega)
      have f1 := HMr.out.fz j
      have M2 : Hid (MBox (wr.setCell ⟨mb, j, none⟩ (.int .u32 (r j))).drew mb (nwX r (j + 1)) (.pointer (some ⟨rb', 0, none⟩))) := (HMr.out.put j (by omega) _ (fun n _ => nwX_succ r j n hj1)).drew
      have B3 : Hid (Below mb w1 (wr.setCell ⟨mb, j, none⟩ (.int .u32 (r j))).drew) := (HBr.out.setCell (Nat.le_refl _) _).drew
      clear e1
      generalize r j = rv at *
      go_wp2
      refine wp_region_phase 11 [(0, 0), (1, 0), (2, 0), (3, 0), (4, 0), (5, 0), (6, 0), (7, 1), (8, 0), (9, 0), (10, 0), (11, 2)] (fun W => Ck1 W sb j rv) (by kernel_rfl) (by kernel_rfl) (fun _ _ _ d _ h => by cases d <;> exact h) ⟨by simpa using c1⟩ ?_
      repeat (first | (refine wpPlanZ_free (by rfl) (by rfl) (fun W => by (go_simp; try with_reducible rfl)) (fun K hK => ?_); go_simp; refine hK _ ?_; clear hK K) | (refine wpPlanZ_quiet (by rfl) (by rfl) (fun W hW => by (obtain ⟨z0⟩ := hW; go_simp; try with_reducible rfl)) (fun K hK => ?_); go_simp; refine hK _ ?_; clear hK K))
      refine wpPlanZ_serial (by rfl) (by rfl) (fun K hK => ?_)
      go_simp
      refine hK _ _ (fun h => absurd h (by decide)) ?_
      clear hK K
      refine wpPlanZ_nil ?_
      clear c1 g1 f1 q1 q2 HMr HBr
      generalize (wr.setCell ⟨mb, j, none⟩ (.int .u32 rv)).drew = W3 at *
      go_wp2
      go_roundw
      case rel => exact ⟨j + 1, by omega, by omega, by go_num, M2.out, B3.out⟩
      case measure => simp [intOf]; omega
    · obtain rfl : j = 32 := by omega
      have c1 := e1 32 (by omega)
      have g1 := HMr.out.c 32 (by omega)
      have f1 := HMr.out.fz 32
      have M2 : Hid (MBox (wr.setCell ⟨mb, 32, none⟩ (.int .u32 (r 32))).drew mb (nwX r 33) (.pointer (some ⟨rb', 0, none⟩))) := (HMr.out.put 32 (by omega) _ (fun n _ => nwX_succ r 32 n (by omega))).drew
      have B3 : Hid (Below mb w1 (wr.setCell ⟨mb, 32, none⟩ (.int .u32 (r 32))).drew) := (HBr.out.setCell (Nat.le_refl _) _).drew
      clear e1
      generalize r 32 = rv at *
      go_wp2
      refine wp_region_phase 8 [(0, 0), (1, 0), (2, 0), (3, 0), (4, 1), (5, 0), (6, 0), (7, 0), (8, 2)] (fun W => Ck1 W sb 32 rv) (by kernel_rfl) (by kernel_rfl) (fun _ _ _ d _ h => by cases d <;> exact h) ⟨by simpa using c1⟩ ?_
      repeat (first | (refine wpPlanZ_free (by rfl) (by rfl) (fun W => by (go_simp; try with_reducible rfl)) (fun K hK => ?_); go_simp; refine hK _ ?_; clear hK K) | (refine wpPlanZ_quiet (by rfl) (by rfl) (fun W hW => by (obtain ⟨z0⟩ := hW; go_simp; try with_reducible rfl)) (fun K hK => ?_); go_simp; refine hK _ ?_; clear hK K))
      refine wpPlanZ_serial (by rfl) (by rfl) (fun K hK => ?_)
      go_simp
      refine hK _ _ (fun h => absurd h (by decide)) ?_
      clear hK K
      refine wpPlanZ_nil ?_
      clear c1 g1 f1 q1 q2 HMr HBr
      generalize (wr.setCell ⟨mb, 32, none⟩ (.int .u32 rv)).drew = W3 at *
      have e1 := HR.out W3 (HB1.out.trans (B3.out.mono hsz))
      have q1 := M2.out.lt
      have q2 : sb < W3.heap.size := World.block_lt_of_cell? _ _ (e1 0 (by omega))
      have c1 := e1 33 (by omega)
      have g1 := M2.out.c 33 (by omega)
      have f1 := M2.out.fz 33
      have M3 : Hid (MBox (W3.setCell ⟨mb, 33, none⟩ (.int .u32 (r 33))).drew mb (nwX r 34) (.pointer (some ⟨rb', 0, none⟩))) := (M2.out.put 33 (by omega) _ (fun n _ => nwX_succ r 33 n (by omega))).drew
      have B4 : Hid (Below mb w1 (W3.setCell ⟨mb, 33, none⟩ (.int .u32 (r 33))).drew) := (B3.out.setCell (Nat.le_refl _) _).drew
      clear e1
      generalize r 33 = rv2 at *
      go_wp2
      refine wp_region_phase 8 [(0, 0), (1, 0), (2, 0), (3, 0), (4, 1), (5, 0), (6, 0), (7, 0), (8, 2)] (fun W => Ck1 W sb 33 rv2) (by kernel_rfl) (by kernel_rfl) (fun _ _ _ d _ h => by cases d <;> exact h) ⟨by simpa using c1⟩ ?_
      repeat (first | (refine wpPlanZ_free (by rfl) (by rfl) (fun W => by (go_simp; try with_reducible rfl)) (fun K hK => ?_); go_simp; refine hK _ ?_; clear hK K) | (refine wpPlanZ_quiet (by rfl) (by rfl) (fun W hW => by (obtain ⟨z0⟩ := hW; go_simp; try with_reducible rfl)) (fun K hK => ?_); go_simp; refine hK _ ?_; clear hK K))
      refine wpPlanZ_serial (by rfl) (by rfl) (fun K hK => ?_)
      go_simp
      refine hK _ _ (fun h => absurd h (by decide)) ?_
      clear hK K
      refine wpPlanZ_nil ?_
      clear c1 g1 f1 q1 q2 M2 B3
      generalize (W3.setCell ⟨mb, 33, none⟩ (.int .u32 rv2)).drew = W4 at *
      have DF : Hid (DMem W4 rb' gb' kb' hb' m wt ht) := HD1.out.stays (by rw [hmb]; exact B4.out)
      have BF : Hid (Below w.heap.size w W4) := HB1.out.trans (B4.out.mono hsz)
      have LT2 : Hid (rb' < mb ∧ gb' < mb ∧ kb' < mb ∧ hb' < mb) := LT.out
      go_wp2
      go_ret
      first | exact ⟨mb, rb', gb', kb', hb', rfl, M3.out, DF.out, BF.out, LL.out, LT2.out⟩ | exact ⟨mb, rfl, rb', gb', kb', hb', M3.out, DF.out, BF.out, LL.out, LT2.out⟩ | exact ⟨mb, rfl, rb', M3.out, gb', kb', hb', DF.out, BF.out, LL.out, LT2.out⟩
end Go.Proofs.YtphdginikmmnmaaGreatDoor
/-
  The machine's registers, loaded as one value.
-/
namespace Go.Proofs.YtphdginikmmnmaaGreatDoor
open Go.RowKit Go.Maps
open Num
set_option linter.unusedVariables false
def xsA (X : Nat → Int) : Array Value := ((List.range 64).map fun j => Value.int .u32 (X j)).toArray
theorem xsA_get (X : Nat → Int) (i : Nat) (h : i < 64) : (xsA X)[i]? = some (.int .u32 (X i)) := by unfold xsA; rw [List.getElem?_toArray, List.getElem?_map, List.getElem?_range h]; rfl
theorem MBox.load {w : World} {mb : Nat} {X : Nat → Int} {p : Value} (M : MBox w mb X p) : (loadVar 121 ⟨mb, 0, none⟩).run Tryz.prog w = .ok (.agg (xsA X)) w :=
  run_loadVar_mid w mb 0 121 ((List.range 64).map fun j => Value.int .u32 (X j)) _ (fun j u hu => by
    have hj : j < 64 := by have := (List.getElem?_eq_some_iff.1 hu).1; simpa using this
    rw [Nat.zero_add, M.c j hj]
    rw [List.getElem?_map, List.getElem?_range hj] at hu
    exact hu) Tryz.underlying121 rfl (by show _ = some 64; kernel_rfl)
theorem exec_loadT {ρ : Operand → Value} {o : Oper} {x : Operand} {sb : Nat} {v : Value} {t : TypeId} (ho : o.op = .load t x) (hx : ρ x = .pointer (some ⟨sb, 0, none⟩)) (W : World) (hl : (loadVar t ⟨sb, 0, none⟩).run Tryz.prog W = .ok v W) : (execOp ρ o).run Tryz.prog W = .ok (.value v) W := by
  have hs : (Instr.sureAddr (.pointer (some ⟨sb, 0, none⟩))).run Tryz.prog W = .ok ⟨sb, 0, none⟩ W := by simp [Instr.sureAddr]
  have h : (Instr.loadAt t (.pointer (some ⟨sb, 0, none⟩))).run Tryz.prog W = .ok v W := by unfold Instr.loadAt; rw [Sem.run_bind, hs, Result.andThen_ok]; exact hl
  unfold execOp
  simp only [ho, hx, Sem.run_bind, h, Result.andThen_ok]
  rfl
end Go.Proofs.YtphdginikmmnmaaGreatDoor
