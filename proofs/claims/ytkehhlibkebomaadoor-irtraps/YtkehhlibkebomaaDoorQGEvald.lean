/-
  The closed fact of codes: evaluated.
-/
import Derived.Test.YtkehhlibkebomaaDoorKSerial
import Derived.Test.YtkehhlibkebomaaDoorKGEvE
namespace Go.Proofs.YtkehhlibkebomaaDoor
open Go.RowKit Go.Maps
open Num
set_option linter.unusedVariables false
def eS : St := { zS with nx := 4 }
def eL : List Opx := [⟨kindS 1, 5, 0, 0, 7, 0⟩, ⟨kindS 3, 6, 5, 5, 0, 0⟩, ⟨kindS 26, 0, 0, 0, 40, 0⟩]
theorem eL_fine : codeF 1 eL = (0, -1) := by decide
theorem eL_ok : ∀ o ∈ eL, o.ok := by
  intro o ho
  simp [eL] at ho
  rcases ho with rfl | rfl | rfl <;> exact ⟨by decide, by decide, by decide, by decide, by decide, by decide, by decide, by decide, by decide, by decide⟩
def eX : Nat → Int := setX (setX (begX eS) 5 7) 6 14
theorem eRun (m : Nat → Int) (wt : Int → Bool) : run1 wt eL (begX eS) m = .leave ⟨eX, m, 40⟩ := by
  have k1 : ∀ d a b i t, (Opx.k ⟨kindS 1, d, a, b, i, t⟩) = 1 := fun _ _ _ _ _ => kn_kind 1 (by omega) (by omega)
  have k3 : ∀ d a b i t, (Opx.k ⟨kindS 3, d, a, b, i, t⟩) = 3 := fun _ _ _ _ _ => kn_kind 3 (by omega) (by omega)
  have k26 : ∀ d a b i t, (Opx.k ⟨kindS 26, d, a, b, i, t⟩) = 26 := fun _ _ _ _ _ => kn_kind 26 (by omega) (by omega)
  have r1 : resZ wt (begX eS) m ⟨kindS 1, 5, 0, 0, 7, 0⟩ = ⟨7, 0, false, false⟩ := by rw [resZ_val (by rw [k1]; omega), k1]; rfl
  have r2 : resZ wt (setX (begX eS) 5 7) m ⟨kindS 3, 6, 5, 5, 0, 0⟩ = ⟨14, 0, false, false⟩ := by rw [resZ_val (by rw [k3]; omega), k3]; rfl
  have r3 : resZ wt eX m ⟨kindS 26, 0, 0, 0, 40, 0⟩ = ⟨0, 40, false, true⟩ := by unfold resZ; rw [k26]; rfl
  unfold eL
  rw [run1_cons, r1, if_neg (by decide), appZ_val (by rw [k1]; omega) (by rw [k1]; omega) (by decide), if_pos (by show (-1 : Int) < 0; decide)]
  show run1 wt _ (setX (begX eS) 5 7) m = _
  rw [run1_cons, r2, if_neg (by decide), appZ_val (by rw [k3]; omega) (by rw [k3]; omega) (by decide), if_pos (by show (-1 : Int) < 0; decide)]
  show run1 wt _ eX m = _
  rw [run1_cons, r3, if_neg (by decide)]
  have : appZ ⟨eX, m, -1⟩ ⟨kindS 26, 0, 0, 0, 40, 0⟩ ⟨0, 40, false, true⟩ = ⟨eX, m, 40⟩ := by
    unfold appZ
    rw [wr_none (by rw [k26]; omega), k26]
    rfl
  rw [this, if_neg (by show ¬ (40 : Int) < 0; decide)]
theorem eS_ok : eS.ok := by
  refine ⟨fun j => ⟨Int.le_refl _, by show (0 : Int) < _; decide⟩, ?_, ?_, ?_, ?_, ?_, ?_, ?_, ?_, ?_, by decide, by decide⟩ <;> exact ⟨by decide, by decide⟩
set_option maxRecDepth 100000 in
set_option maxHeartbeats 4000000 in
theorem evaluated_any (pe : Nat → Addr) {w : World} (E : Eg pe w) :
    Calls Tryd.prog 4 #[] w fun e w' => e = .returned (.bool true) ∧ Below w.heap.size w w' := by
  go_enter Tryd.func4, Tryd.ntmps4
  go_upto_region 2 with (first | (refine wpList_allocSt rfl rfl ?_) | (refine wpList_storeSt rfl _ _ rfl (stA zS) (stA eS) rfl rfl (stA_size _) (stA_size _) (stA_one _) ?_))
  have hS0 := st_rowG w eS
  have hB0 : Below w.heap.size w (w.alloc (.cells (stA eS) 26)) := (Below.refl _ _).alloc (Nat.le_refl _) _
  have hz0 : (w.alloc (.cells (stA eS) 26)).heap.size = w.heap.size + 1 := by simp
  generalize w.alloc (.cells (stA eS) 26) = V at *
  go_upto_region 3 with fail
  have hOps : OpsIn (V.alloc (.cells #[.string ⟨#[115, 101, 116]⟩, .int .i64 5, .int .i64 0, .int .i64 0, .int .u32 7, .int .i64 0, .string ⟨#[97, 100, 100]⟩, .int .i64 6, .int .i64 5, .int .i64 5, .int .u32 0, .int .i64 0, .string ⟨#[111, 117, 116]⟩, .int .i64 0, .int .i64 0, .int .i64 0, .int .u32 40, .int .i64 0] 53)) (.slice (some ⟨w.heap.size + 1, 0, none⟩) 3 3) eL := by
    refine ⟨⟨_, 3, rfl, by decide, fun _ => ⟨w.heap.size + 1, 0, rfl, fun i o hi j u hu => ?_⟩⟩, eL_ok⟩
    rw [← hz0, cell_of_row _ _ _ _ _ _ (heap_alloc_new V _)]
    have h3 : i = 0 ∨ i = 1 ∨ i = 2 := by have := (List.getElem?_eq_some_iff.1 hi).1; simp [eL] at this; omega
    have h6 : j < 6 := by have := (List.getElem?_eq_some_iff.1 hu).1; simpa [opC] using this
    have h6' : j = 0 ∨ j = 1 ∨ j = 2 ∨ j = 3 ∨ j = 4 ∨ j = 5 := by omega
    rcases h3 with rfl | rfl | rfl <;> (simp [eL] at hi; subst hi; rcases h6' with rfl | rfl | rfl | rfl | rfl | rfl <;> (simp [opC] at hu; subst hu; rfl))
  have B1 : Hid (Below V.heap.size V ((V.alloc (.cells #[.string ⟨#[115, 101, 116]⟩, .int .i64 5, .int .i64 0, .int .i64 0, .int .u32 7, .int .i64 0, .string ⟨#[97, 100, 100]⟩, .int .i64 6, .int .i64 5, .int .i64 5, .int .u32 0, .int .i64 0, .string ⟨#[111, 117, 116]⟩, .int .i64 0, .int .i64 0, .int .i64 0, .int .u32 40, .int .i64 0] 53)).alloc (.cells #[.int .u32 0, .int .i64 1, .slice (some ⟨w.heap.size + 1, 0, none⟩) 3 3] 35))) := ((Below.refl _ _).alloc (Nat.le_refl _) _).alloc (by simp) _
  have hzU : ((V.alloc (.cells #[.string ⟨#[115, 101, 116]⟩, .int .i64 5, .int .i64 0, .int .i64 0, .int .u32 7, .int .i64 0, .string ⟨#[97, 100, 100]⟩, .int .i64 6, .int .i64 5, .int .i64 5, .int .u32 0, .int .i64 0, .string ⟨#[111, 117, 116]⟩, .int .i64 0, .int .i64 0, .int .i64 0, .int .u32 40, .int .i64 0] 53)).alloc (.cells #[.int .u32 0, .int .i64 1, .slice (some ⟨w.heap.size + 1, 0, none⟩) 3 3] 35)).heap.size = w.heap.size + 3 := by simp [hz0]
  have hzO : (V.alloc (.cells #[.string ⟨#[115, 101, 116]⟩, .int .i64 5, .int .i64 0, .int .i64 0, .int .u32 7, .int .i64 0, .string ⟨#[97, 100, 100]⟩, .int .i64 6, .int .i64 5, .int .i64 5, .int .u32 0, .int .i64 0, .string ⟨#[111, 117, 116]⟩, .int .i64 0, .int .i64 0, .int .i64 0, .int .u32 40, .int .i64 0] 53)).heap.size = w.heap.size + 1 + 1 := by simp [hz0]
  have k0 : ((V.alloc (.cells #[.string ⟨#[115, 101, 116]⟩, .int .i64 5, .int .i64 0, .int .i64 0, .int .u32 7, .int .i64 0, .string ⟨#[97, 100, 100]⟩, .int .i64 6, .int .i64 5, .int .i64 5, .int .u32 0, .int .i64 0, .string ⟨#[111, 117, 116]⟩, .int .i64 0, .int .i64 0, .int .i64 0, .int .u32 40, .int .i64 0] 53)).alloc (.cells #[.int .u32 0, .int .i64 1, .slice (some ⟨w.heap.size + 1, 0, none⟩) 3 3] 35)).cell? ⟨w.heap.size + 1 + 1, 0, none⟩ = some (.int .u32 0) := by rw [← hzO, cell_of_row _ _ _ _ _ _ (heap_alloc_new _ _)]; rfl
  have k1 : ((V.alloc (.cells #[.string ⟨#[115, 101, 116]⟩, .int .i64 5, .int .i64 0, .int .i64 0, .int .u32 7, .int .i64 0, .string ⟨#[97, 100, 100]⟩, .int .i64 6, .int .i64 5, .int .i64 5, .int .u32 0, .int .i64 0, .string ⟨#[111, 117, 116]⟩, .int .i64 0, .int .i64 0, .int .i64 0, .int .u32 40, .int .i64 0] 53)).alloc (.cells #[.int .u32 0, .int .i64 1, .slice (some ⟨w.heap.size + 1, 0, none⟩) 3 3] 35)).cell? ⟨w.heap.size + 1 + 1, 1, none⟩ = some (.int .i64 1) := by rw [← hzO, cell_of_row _ _ _ _ _ _ (heap_alloc_new _ _)]; rfl
  have k2 : ((V.alloc (.cells #[.string ⟨#[115, 101, 116]⟩, .int .i64 5, .int .i64 0, .int .i64 0, .int .u32 7, .int .i64 0, .string ⟨#[97, 100, 100]⟩, .int .i64 6, .int .i64 5, .int .i64 5, .int .u32 0, .int .i64 0, .string ⟨#[111, 117, 116]⟩, .int .i64 0, .int .i64 0, .int .i64 0, .int .u32 40, .int .i64 0] 53)).alloc (.cells #[.int .u32 0, .int .i64 1, .slice (some ⟨w.heap.size + 1, 0, none⟩) 3 3] 35)).cell? ⟨w.heap.size + 1 + 1, 2, none⟩ = some (.slice (some ⟨w.heap.size + 1, 0, none⟩) 3 3) := by rw [← hzO, cell_of_row _ _ _ _ _ _ (heap_alloc_new _ _)]; rfl
  clear hzO
  have hOps2 := hOps.stays ((Below.refl _ _).alloc (Nat.le_refl _) (.cells #[.int .u32 0, .int .i64 1, .slice (some ⟨w.heap.size + 1, 0, none⟩) 3 3] 35))
  generalize (V.alloc (.cells #[.string ⟨#[115, 101, 116]⟩, .int .i64 5, .int .i64 0, .int .i64 0, .int .u32 7, .int .i64 0, .string ⟨#[97, 100, 100]⟩, .int .i64 6, .int .i64 5, .int .i64 5, .int .u32 0, .int .i64 0, .string ⟨#[111, 117, 116]⟩, .int .i64 0, .int .i64 0, .int .i64 0, .int .u32 40, .int .i64 0] 53)).alloc (.cells #[.int .u32 0, .int .i64 1, .slice (some ⟨w.heap.size + 1, 0, none⟩) 3 3] 35) = U at *
  have BU : Hid (Below w.heap.size w U) := hB0.trans (B1.out.mono (by omega))
  have EU : Hid (Eg pe U) := E.stays BU.out
  have SU : Hid (StRow U w.heap.size eS) := hS0.stays B1.out
  have OU : Hid (OpsIn U (.slice (some ⟨w.heap.size + 1, 0, none⟩) 3 3) eL) := hOps2
  have hev : ∀ (W : World) (n : Nat), Below U.heap.size U W → RamIs W n (n + 1) (n + 2) (n + 3) 64 (mw []) (fun _ => false) (fun _ => false) → U.heap.size ≤ n → Calls Tryd.prog 10 #[.agg #[.int .u32 0, .int .i64 1, .slice (some ⟨w.heap.size + 1, 0, none⟩) 3 3], .pointer (some ⟨w.heap.size, 0, none⟩), .pointer (some ⟨n, 0, none⟩)] W fun e w' => e = .returned (.tuple #[.agg #[.bool false, .int .i64 0], .nilIface]) ∧ StRow w' w.heap.size (leftS eS eX 40 1) ∧ Below w.heap.size w w' ∧ (∀ (j : Nat) (u : Value), U.cell? ⟨w.heap.size + 1 + 1, j, none⟩ = some u → w'.cell? ⟨w.heap.size + 1 + 1, j, none⟩ = some u) ∧ W.heap.size ≤ w'.heap.size ∧ (∀ k, w.heap.size < k → k < W.heap.size → k ≠ n + 1 → k ≠ n + 3 → w'.heap[k]? = W.heap[k]?) := by
    intro W n hb R h1
    have hlt := ram_ltG R
    refine (ieval_ok pe (EU.out.stays hb) R (by decide) eS_ok (SU.out.stays hb) (by omega) (by omega) (by omega) (by omega) hlt.1 hlt.2.1 hlt.2.2.1 hlt.2.2.2 (OU.out.stays hb) 0 1 (by decide) (by decide) (by decide) (by decide) eL_fine rfl rfl rfl (by decide) (by decide)).mono ?_
    rintro e w' hpost
    rw [eRun] at hpost
    obtain ⟨rfl, S4, _, hz, hk, ho⟩ := hpost
    · skip
      have hzW := hb.size
      have bk : ∀ k, k < U.heap.size → k ≠ w.heap.size → w'.heap[k]? = U.heap[k]? := fun k hk' hn => (hk k (by omega) hn (by omega) (by omega)).trans (hb.block k hk')
      exact ⟨rfl, S4, ⟨ho.1.trans (hb.os.trans BU.out.os), ho.2.1.trans (hb.tape.trans BU.out.tape), ho.2.2.trans (hb.output.trans BU.out.output), by have := BU.out.size; omega, fun k hk' => (bk k (by omega) (by omega)).trans (BU.out.block k hk')⟩, fun j u h => (World.cell?_of_block (a := ⟨w.heap.size + 1 + 1, j, none⟩) (bk (w.heap.size + 1 + 1) (by omega) (by omega))).trans h, hz, fun k h2 h3 h4 h5 => hk k h3 (by omega) h4 h5⟩
  have hnew : ∀ (W : World) (n : Nat), W.heap.size = n → Below U.heap.size U W → Calls Tryd.prog 13 #[.slice none 0 0] W fun e w' => e = .returned (.pointer (some ⟨n, 0, none⟩)) ∧ RamIs w' n (n + 1) (n + 2) (n + 3) 64 (mw []) (fun _ => false) (fun _ => false) ∧ Below U.heap.size U w' ∧ Below W.heap.size W w' ∧ (∀ (j : Nat) (u : Value), U.cell? ⟨w.heap.size + 1 + 1, j, none⟩ = some u → w'.cell? ⟨w.heap.size + 1 + 1, j, none⟩ = some u) := by
    rintro W n rfl hb
    refine (new_any (w := W) (v := .slice none 0 0) (xs := []) ⟨⟨none, 0, rfl, Nat.le_refl _, fun h => by cases h⟩, fun i => ⟨by show (0 : Int) ≤ 0; decide, by show (0 : Int) < _; decide⟩⟩ (by decide)).mono ?_
    rintro e w' ⟨rfl, R, b⟩
    have hb' : Below U.heap.size U w' := hb.trans (b.mono hb.size)
    exact ⟨rfl, R, hb', b, fun j u h => (hb'.cell (p := ⟨w.heap.size + 1 + 1, j, none⟩) (show w.heap.size + 1 + 1 < U.heap.size by omega)).trans h⟩
  clear hS0 hB0 hOps hOps2 E
  refine wp_region_tree 7 (.step 0 1 (.fork 1 6 (.fork 2 6 (.step 3 0 (.step 4 0 (.step 5 0 (.step 6 2 (.step 7 2 (.step 8 0 .nil)))))) (.step 2 2 (.step 3 0 (.step 4 0 (.step 5 0 (.step 7 2 (.step 8 0 .nil))))))) (.step 1 2 (.step 2 2 (.step 3 0 (.step 4 0 (.step 5 0 (.step 7 2 (.step 8 0 .nil))))))))) (fun W => W.cell? ⟨w.heap.size + 1 + 1, 0, none⟩ = some (.int .u32 0) ∧ W.cell? ⟨w.heap.size + 1 + 1, 1, none⟩ = some (.int .i64 1) ∧ W.cell? ⟨w.heap.size + 1 + 1, 2, none⟩ = some (.slice (some ⟨w.heap.size + 1, 0, none⟩) 3 3)) (by kernel_rfl) (by kernel_rfl) (fun _ _ _ d _ h => by cases d <;> exact h) ⟨by simpa using k0, by simpa using k1, by simpa using k2⟩ ?_
  refine wpT_quiet (by rfl) (by rfl) (fun W hW => by (obtain ⟨z0, z1, z2⟩ := hW; go_simp; try with_reducible rfl)) (fun K hK => ?_)
  go_simp
  refine hK _ ?_
  clear hK K
  refine wpT_fork (by rfl) (by rfl) (by rfl) (by rfl) (fun K hK => ?_) (fun K hK => ?_)
  · go_simp
    refine (hnew (U.drew) (w.heap.size + 3) (by simp; omega) (below_drew (Below.refl _ _))).mono ?_
    rintro e w1 ⟨rfl, R1, b1, hb1, c1⟩
    have hz1 := b1.size
    refine hK _ _ (fun _ => ⟨c1 0 _ k0, c1 1 _ k1, c1 2 _ k2⟩) ?_
    clear hK K
    refine wpT_fork (by rfl) (by rfl) (by rfl) (by rfl) (fun K hK => ?_) (fun K hK => ?_)
    · go_simp
      refine (hev (w1) (w.heap.size + 3) b1 R1 (by omega)).mono ?_
      rintro e w2 ⟨rfl, S2, B2, c2, hz2, hk2⟩
      refine hK _ _ (fun _ => ⟨c2 0 _ k0, c2 1 _ k1, c2 2 _ k2⟩) ?_
      clear hK K
      repeat (refine wpT_free (by rfl) (by rfl) (fun W => by (go_simp; try with_reducible rfl)) (fun K hK => ?_); go_simp; refine hK _ ?_; clear hK K)
      refine wpT_serial (by rfl) (by rfl) (fun K hK => ?_)
      go_simp
      have b3 : Below w2.heap.size w2 (w2.alloc (.cells #[.bool false, .int .i64 0] 40)) := (Below.refl _ _).alloc (Nat.le_refl _) _
      have c3 : ∀ (j : Nat) (u : Value), U.cell? ⟨w.heap.size + 1 + 1, j, none⟩ = some u → (w2.alloc (.cells #[.bool false, .int .i64 0] 40)).cell? ⟨w.heap.size + 1 + 1, j, none⟩ = some u := fun j u h => (b3.cell (p := ⟨w.heap.size + 1 + 1, j, none⟩) (show w.heap.size + 1 + 1 < _ by omega)).trans (c2 j u h)
      refine hK _ _ (fun _ => ⟨c3 0 _ k0, c3 1 _ k1, c3 2 _ k2⟩) ?_
      clear hK K
      refine wpT_serial (by rfl) (by rfl) (fun K hK => ?_)
      go_simp
      refine hK _ _ (fun h => absurd h (by decide)) ?_
      clear hK K
      have hE : (w2.alloc (.cells #[.bool false, .int .i64 0] 40)).heap[w2.heap.size]? = some (.cells #[.bool false, .int .i64 0] 40) := heap_alloc_new _ _
      have S3 : StRow (w2.alloc (.cells #[.bool false, .int .i64 0] 40)) w.heap.size (leftS eS eX 40 1) := S2.stays b3
      have B3 : Below w.heap.size w (w2.alloc (.cells #[.bool false, .int .i64 0] 40)) := B2.trans (b3.mono B2.size)
      have hz3 := B3.size
      have d0 : (w2.alloc (.cells #[.bool false, .int .i64 0] 40)).cell? ⟨w2.heap.size, 0, none⟩ = some (.bool false) := by rw [cell_of_row _ _ _ _ _ _ hE]; rfl
      have d1 : (w2.alloc (.cells #[.bool false, .int .i64 0] 40)).cell? ⟨w2.heap.size, 1, none⟩ = some (.int .i64 0) := by rw [cell_of_row _ _ _ _ _ _ hE]; rfl
      have q6 : (w2.alloc (.cells #[.bool false, .int .i64 0] 40)).cell? ⟨w.heap.size, 6, none⟩ = some (.int .u32 14) := S3.cell (j := 6) (by decide)
      have q34 : (w2.alloc (.cells #[.bool false, .int .i64 0] 40)).cell? ⟨w.heap.size, 34, none⟩ = some (.int .u32 40) := S3.cell (j := 34) (by decide)
      have q35 : (w2.alloc (.cells #[.bool false, .int .i64 0] 40)).cell? ⟨w.heap.size, 35, none⟩ = some (.int .u32 44) := S3.cell (j := 35) (by decide)
      have q42 : (w2.alloc (.cells #[.bool false, .int .i64 0] 40)).cell? ⟨w.heap.size, 42, none⟩ = some (.int .i64 1) := S3.cell (j := 42) (by decide)
      generalize w2.alloc (.cells #[.bool false, .int .i64 0] 40) = W3 at *
      repeat (refine wpT_free (by rfl) (by rfl) (fun W => by (go_simp; try with_reducible rfl)) (fun K hK => ?_); go_simp; refine hK _ ?_; clear hK K)
      refine wpT_nil ?_
      go_wp2
      go_ret
      exact ⟨rfl, B3⟩
    · go_simp
      have b3 : Below w1.heap.size w1 (w1.alloc (.cells #[.bool false, .int .i64 0] 40)) := (Below.refl _ _).alloc (Nat.le_refl _) _
      have c3 : ∀ (j : Nat) (u : Value), U.cell? ⟨w.heap.size + 1 + 1, j, none⟩ = some u → (w1.alloc (.cells #[.bool false, .int .i64 0] 40)).cell? ⟨w.heap.size + 1 + 1, j, none⟩ = some u := fun j u h => (b3.cell (p := ⟨w.heap.size + 1 + 1, j, none⟩) (show w.heap.size + 1 + 1 < _ by omega)).trans (c1 j u h)
      refine hK _ _ (fun _ => ⟨c3 0 _ k0, c3 1 _ k1, c3 2 _ k2⟩) ?_
      clear hK K
      refine wpT_serial (by rfl) (by rfl) (fun K hK => ?_)
      go_simp
      refine (hev (w1.alloc (.cells #[.bool false, .int .i64 0] 40)) (w.heap.size + 3) (b1.trans (b3.mono b1.size)) (R1.stays b3 (Nat.le_refl _)) (by omega)).mono ?_
      rintro e w2 ⟨rfl, S2, B2, c2, hz2, hk2⟩
      refine hK _ _ (fun _ => ⟨c2 0 _ k0, c2 1 _ k1, c2 2 _ k2⟩) ?_
      clear hK K
      have hE : w2.heap[w1.heap.size]? = some (.cells #[.bool false, .int .i64 0] 40) := (hk2 w1.heap.size (by omega) (by simp) (by have := (ram_ltG R1).2.2.2; omega) (by have := (ram_ltG R1).2.2.2; omega)).trans (heap_alloc_new _ _)
      have S3 := S2
      have p0 : w2.cell? ⟨w1.heap.size, 0, none⟩ = some (.bool false) := by rw [cell_of_row _ _ _ _ _ _ hE]; rfl
      have p1 : w2.cell? ⟨w1.heap.size, 1, none⟩ = some (.int .i64 0) := by rw [cell_of_row _ _ _ _ _ _ hE]; rfl
      have f0 : w2.frozen? ⟨w1.heap.size, 0, none⟩ = false := frozen_of_row _ _ _ _ _ hE
      have f1 : w2.frozen? ⟨w1.heap.size, 1, none⟩ = false := frozen_of_row _ _ _ _ _ hE
      have s0 : w2.setCell ⟨w1.heap.size, 0, none⟩ (.bool false) = w2 := set_self hE rfl
      have s1 : w2.setCell ⟨w1.heap.size, 1, none⟩ (.int .i64 0) = w2 := set_self hE rfl
      repeat (refine wpT_free (by rfl) (by rfl) (fun W => by (go_simp; try with_reducible rfl)) (fun K hK => ?_); go_simp; refine hK _ ?_; clear hK K)
      refine wpT_serial (by rfl) (by rfl) (fun K hK => ?_)
      go_simp
      refine hK _ _ (fun h => absurd h (by decide)) ?_
      clear hK K
      have B3 : Below w.heap.size w (w2) := B2
      have hz3 := B3.size
      have d0 : (w2).cell? ⟨w1.heap.size, 0, none⟩ = some (.bool false) := by rw [cell_of_row _ _ _ _ _ _ hE]; rfl
      have d1 : (w2).cell? ⟨w1.heap.size, 1, none⟩ = some (.int .i64 0) := by rw [cell_of_row _ _ _ _ _ _ hE]; rfl
      have q6 : (w2).cell? ⟨w.heap.size, 6, none⟩ = some (.int .u32 14) := S3.cell (j := 6) (by decide)
      have q34 : (w2).cell? ⟨w.heap.size, 34, none⟩ = some (.int .u32 40) := S3.cell (j := 34) (by decide)
      have q35 : (w2).cell? ⟨w.heap.size, 35, none⟩ = some (.int .u32 44) := S3.cell (j := 35) (by decide)
      have q42 : (w2).cell? ⟨w.heap.size, 42, none⟩ = some (.int .i64 1) := S3.cell (j := 42) (by decide)
      generalize w2 = W3 at *
      repeat (refine wpT_free (by rfl) (by rfl) (fun W => by (go_simp; try with_reducible rfl)) (fun K hK => ?_); go_simp; refine hK _ ?_; clear hK K)
      refine wpT_nil ?_
      go_wp2
      go_ret
      exact ⟨rfl, B3⟩
  · go_simp
    have b4 : Below U.heap.size U (U.drew.alloc (.cells #[.bool false, .int .i64 0] 40)) := (below_drew (Below.refl _ _)).alloc (by simp) _
    have c4 : ∀ (j : Nat) (u : Value), U.cell? ⟨w.heap.size + 1 + 1, j, none⟩ = some u → (U.drew.alloc (.cells #[.bool false, .int .i64 0] 40)).cell? ⟨w.heap.size + 1 + 1, j, none⟩ = some u := fun j u h => (b4.cell (p := ⟨w.heap.size + 1 + 1, j, none⟩) (show w.heap.size + 1 + 1 < _ by omega)).trans h
    refine hK _ _ (fun _ => ⟨c4 0 _ k0, c4 1 _ k1, c4 2 _ k2⟩) ?_
    clear hK K
    refine wpT_serial (by rfl) (by rfl) (fun K hK => ?_)
    go_simp
    refine (hnew (U.drew.alloc (.cells #[.bool false, .int .i64 0] 40)) (w.heap.size + 3 + 1) (by simp; omega) b4).mono ?_
    rintro e w1 ⟨rfl, R1, b1, hb1, c1⟩
    have hz1 := b1.size
    refine hK _ _ (fun _ => ⟨c1 0 _ k0, c1 1 _ k1, c1 2 _ k2⟩) ?_
    clear hK K
    refine wpT_serial (by rfl) (by rfl) (fun K hK => ?_)
    go_simp
    refine (hev (w1) (w.heap.size + 3 + 1) b1 R1 (by omega)).mono ?_
    rintro e w2 ⟨rfl, S2, B2, c2, hz2, hk2⟩
    refine hK _ _ (fun _ => ⟨c2 0 _ k0, c2 1 _ k1, c2 2 _ k2⟩) ?_
    clear hK K
    have hE : w2.heap[w.heap.size + 3]? = some (.cells #[.bool false, .int .i64 0] 40) := (hk2 (w.heap.size + 3) (by omega) (by have := hb1.size; simp at this; omega) (by omega) (by omega)).trans ((hb1.block (w.heap.size + 3) (by simp; omega)).trans (by rw [← hzU]; exact heap_alloc_new U.drew _))
    have S3 := S2
    have p0 : w2.cell? ⟨w.heap.size + 3, 0, none⟩ = some (.bool false) := by rw [cell_of_row _ _ _ _ _ _ hE]; rfl
    have p1 : w2.cell? ⟨w.heap.size + 3, 1, none⟩ = some (.int .i64 0) := by rw [cell_of_row _ _ _ _ _ _ hE]; rfl
    have f0 : w2.frozen? ⟨w.heap.size + 3, 0, none⟩ = false := frozen_of_row _ _ _ _ _ hE
    have f1 : w2.frozen? ⟨w.heap.size + 3, 1, none⟩ = false := frozen_of_row _ _ _ _ _ hE
    have s0 : w2.setCell ⟨w.heap.size + 3, 0, none⟩ (.bool false) = w2 := set_self hE rfl
    have s1 : w2.setCell ⟨w.heap.size + 3, 1, none⟩ (.int .i64 0) = w2 := set_self hE rfl
    repeat (refine wpT_free (by rfl) (by rfl) (fun W => by (go_simp; try with_reducible rfl)) (fun K hK => ?_); go_simp; refine hK _ ?_; clear hK K)
    refine wpT_serial (by rfl) (by rfl) (fun K hK => ?_)
    go_simp
    refine hK _ _ (fun h => absurd h (by decide)) ?_
    clear hK K
    have B3 : Below w.heap.size w (w2) := B2
    have hz3 := B3.size
    have d0 : (w2).cell? ⟨w.heap.size + 3, 0, none⟩ = some (.bool false) := by rw [cell_of_row _ _ _ _ _ _ hE]; rfl
    have d1 : (w2).cell? ⟨w.heap.size + 3, 1, none⟩ = some (.int .i64 0) := by rw [cell_of_row _ _ _ _ _ _ hE]; rfl
    have q6 : (w2).cell? ⟨w.heap.size, 6, none⟩ = some (.int .u32 14) := S3.cell (j := 6) (by decide)
    have q34 : (w2).cell? ⟨w.heap.size, 34, none⟩ = some (.int .u32 40) := S3.cell (j := 34) (by decide)
    have q35 : (w2).cell? ⟨w.heap.size, 35, none⟩ = some (.int .u32 44) := S3.cell (j := 35) (by decide)
    have q42 : (w2).cell? ⟨w.heap.size, 42, none⟩ = some (.int .i64 1) := S3.cell (j := 42) (by decide)
    generalize w2 = W3 at *
    repeat (refine wpT_free (by rfl) (by rfl) (fun W => by (go_simp; try with_reducible rfl)) (fun K hK => ?_); go_simp; refine hK _ ?_; clear hK K)
    refine wpT_nil ?_
    go_wp2
    go_ret
    exact ⟨rfl, B3⟩
end Go.Proofs.YtkehhlibkebomaaDoor
