/-
  What the verifier's matches answers at any row of the document's table: whether the fields that the word has make it again.
-/
import Derived.Test.YtckcbnfobjmhpaaDoorKMatch
namespace Go.Proofs.YtckcbnfobjmhpaaDoor.K
open Go.RowKit Go.Extern.Stop Go.Stop Go.Extern
open Num Tab Fm
set_option linter.unusedVariables false
theorem mn_0 : ∀ k, k < 54 → (hasI (sh k) || hasJ (sh k)) = true → mn k = 0 := by decide
set_option maxHeartbeats 4000000 in
theorem matches_any (k : Nat) (hk : k < 54) (g1 : 1 ≤ k) (v : Int) (h0 : 0 ≤ v) (h1 : v < 4294967296) (w : World) :
    Calls Tryd.prog 72 #[.int .u32 v, .agg #[.string ⟨(nme k).toArray⟩, .int .i64 (mj k), .int .i64 (mn k), .string ⟨(flds k).toArray⟩, .string ⟨(ordr k).toArray⟩, .string ⟨(kindR k).toArray⟩]] w fun e w' => e = .returned (.bool (decide (xw k v = v))) ∧ Below w.heap.size w w' := by
  have hf := fit_all k hk
  have hn := sh_all k hk
  have h45 := sh_45 k hk
  have hm := mn_0 k hk
  have hB := is_xw k hk g1 v h0 h1
  have hfl : flds k = lt (sh k) := rfl
  rw [hfl]
  unfold isB at hB
  unfold fitB at hf
  generalize decide (xw k v = v) = R at hB ⊢
  generalize fst k = f at hf
  generalize mj k = M at hf hB ⊢
  generalize mn k = N at hf hm hB ⊢
  generalize ByteArray.mk (nme k).toArray = x
  generalize ByteArray.mk (ordr k).toArray = y
  generalize ByteArray.mk (kindR k).toArray = z
  generalize sh k = n at *
  have hc : n = 0 ∨ n = 1 ∨ n = 2 ∨ n = 3 ∨ n = 4 ∨ n = 5 ∨ n = 6 ∨ n = 7 ∨ n = 8 ∨ n = 9 ∨ n = 10 ∨ n = 11 := by omega
  clear hn hfl
  have fin : ∀ {a b : Bool} {args : Array Value}, a = b → Calls Tryd.prog 72 args w (fun e w' => e = .returned (.bool a) ∧ Below w.heap.size w w') → Calls Tryd.prog 72 args w (fun e w' => e = .returned (.bool b) ∧ Below w.heap.size w w') := fun e h => by rw [← e]; exact h
  rcases hc with rfl | rfl | rfl | rfl | rfl | rfl | rfl | rfl | rfl | rfl | rfl | rfl
  · by_cases e45 : k = 45
    · simp [hasI, hasJ, lt, ltL, e45] at hf
      obtain ⟨rfl, hx0, hx1, rfl, hx2⟩ := hf
      simp [hasS, hasT, hasD, hasA, hasI, hasJ, lt, ltL] at hB
      refine fin ?_ (match_e x y z v h0 h1 w)
      rw [← hB] <;> (rw [Bool.eq_iff_iff]; simp only [decide_eq_true_eq, Bool.and_eq_true] <;> omega)
    · simp [hasI, hasJ, lt, ltL, e45] at hf
      obtain ⟨rfl, hx⟩ := hf
      simp [hasS, hasT, hasD, hasA, hasI, hasJ, lt, ltL] at hB
      refine fin ?_ (match_0 x y z N v h0 h1 w)
      rw [← hB] <;> (rw [Bool.eq_iff_iff]; simp only [decide_eq_true_eq, Bool.and_eq_true] <;> omega)
  · have e45 : ¬ k = 45 := fun e => by have := h45 e; omega
    simp [hasI, hasJ, lt, ltL, e45] at hf
    obtain ⟨rfl, hx⟩ := hf
    simp [hasS, hasT, hasD, hasA, hasI, hasJ, lt, ltL] at hB
    refine fin ?_ (match_1 x y z N v h0 h1 w)
    rw [← hB] <;> (rw [Bool.eq_iff_iff]; simp only [decide_eq_true_eq, Bool.and_eq_true] <;> omega)
  · have e45 : ¬ k = 45 := fun e => by have := h45 e; omega
    simp [hasI, hasJ, lt, ltL, e45] at hf
    obtain ⟨rfl, hx⟩ := hf
    simp [hasS, hasT, hasD, hasA, hasI, hasJ, lt, ltL] at hB
    refine fin ?_ (match_2 x y z N v h0 h1 w)
    rw [← hB] <;> (rw [Bool.eq_iff_iff]; simp only [decide_eq_true_eq, Bool.and_eq_true] <;> omega)
  · have e45 : ¬ k = 45 := fun e => by have := h45 e; omega
    simp [hasI, hasJ, lt, ltL, e45] at hf
    obtain ⟨rfl, hx⟩ := hf
    simp [hasS, hasT, hasD, hasA, hasI, hasJ, lt, ltL] at hB
    refine fin ?_ (match_3 x y z N v h0 h1 w)
    rw [← hB] <;> (rw [Bool.eq_iff_iff]; simp only [decide_eq_true_eq, Bool.and_eq_true] <;> omega)
  · have e45 : ¬ k = 45 := fun e => by have := h45 e; omega
    simp [hasI, hasJ, lt, ltL, e45] at hf
    obtain ⟨rfl, hx⟩ := hf
    simp [hasS, hasT, hasD, hasA, hasI, hasJ, lt, ltL] at hB
    refine fin ?_ (match_4 x y z N v h0 h1 w)
    rw [← hB] <;> (rw [Bool.eq_iff_iff]; simp only [decide_eq_true_eq, Bool.and_eq_true] <;> omega)
  · have e45 : ¬ k = 45 := fun e => by have := h45 e; omega
    simp [hasI, hasJ, lt, ltL, e45] at hf
    obtain ⟨rfl, hx⟩ := hf
    simp [hasS, hasT, hasD, hasA, hasI, hasJ, lt, ltL] at hB
    refine fin ?_ (match_5 x y z N v h0 h1 w)
    rw [← hB] <;> (rw [Bool.eq_iff_iff]; simp only [decide_eq_true_eq, Bool.and_eq_true] <;> omega)
  · have e45 : ¬ k = 45 := fun e => by have := h45 e; omega
    simp [hasI, hasJ, lt, ltL, e45] at hf
    obtain ⟨rfl, hx⟩ := hf
    simp [hasS, hasT, hasD, hasA, hasI, hasJ, lt, ltL] at hB
    refine fin ?_ (match_6 x y z N v h0 h1 w)
    rw [← hB] <;> (rw [Bool.eq_iff_iff]; simp only [decide_eq_true_eq, Bool.and_eq_true] <;> omega)
  · have hN : N = 0 := hm (by decide)
    subst hN
    simp [hasI, hasJ, lt, ltL] at hf
    obtain ⟨hx, hx1, hx2, hx3⟩ := hf
    have hM0 : M ≠ 0 := by omega
    simp [hasS, hasT, hasD, hasA, hasI, hasJ, lt, ltL, hM0, hx3] at hB
    refine fin ?_ (match_7 x y z M hM0 hx3 v h0 h1 w)
    rw [← hB] <;> (rw [Bool.eq_iff_iff]; simp only [decide_eq_true_eq, Bool.and_eq_true] <;> omega)
  · have hN : N = 0 := hm (by decide)
    subst hN
    simp [hasI, hasJ, lt, ltL] at hf
    obtain ⟨hx, hx1, hx2, hx3⟩ := hf
    have hM0 : M ≠ 0 := by omega
    simp [hasS, hasT, hasD, hasA, hasI, hasJ, lt, ltL, hM0, hx3] at hB
    refine fin ?_ (match_8 x y z M hM0 hx3 v h0 h1 w)
    rw [← hB] <;> (rw [Bool.eq_iff_iff]; simp only [decide_eq_true_eq, Bool.and_eq_true] <;> omega)
  · have hN : N = 0 := hm (by decide)
    subst hN
    simp [hasI, hasJ, lt, ltL] at hf
    obtain ⟨hx, hx1, hx2, hx3⟩ := hf
    have hM0 : M ≠ 0 := by omega
    simp [hasS, hasT, hasD, hasA, hasI, hasJ, lt, ltL, hM0, hx3] at hB
    refine fin ?_ (match_9 x y z M hM0 hx3 v h0 h1 w)
    rw [← hB] <;> (rw [Bool.eq_iff_iff]; simp only [decide_eq_true_eq, Bool.and_eq_true] <;> omega)
  · have hN : N = 0 := hm (by decide)
    subst hN
    simp [hasI, hasJ, lt, ltL] at hf
    obtain ⟨hx, hx1, hx2, hx3⟩ := hf
    have hM0 : M ≠ 0 := by omega
    simp [hasS, hasT, hasD, hasA, hasI, hasJ, lt, ltL, hM0, hx3] at hB
    refine fin ?_ (match_10 x y z M hM0 hx3 v h0 h1 w)
    rw [← hB] <;> (rw [Bool.eq_iff_iff]; simp only [decide_eq_true_eq, Bool.and_eq_true] <;> omega)
  · have e45 : ¬ k = 45 := fun e => by have := h45 e; omega
    simp [hasI, hasJ, lt, ltL, e45] at hf
    obtain ⟨rfl, hx, hx1, hx2, hx3⟩ := hf
    simp [hasS, hasT, hasD, hasA, hasI, hasJ, lt, ltL, hx2] at hB
    refine fin ?_ (match_11 x y z N hx2 v h0 h1 w)
    rw [← hB] <;> (rw [Bool.eq_iff_iff]; simp only [decide_eq_true_eq, Bool.and_eq_true] <;> omega)
end Go.Proofs.YtckcbnfobjmhpaaDoor.K
