/-
  The pages that were hit, in their order: what is sorted, and what the document counts up.
-/
import Derived.Test.YtmfhimphlackiaaDoorHits
import Derived.Lib.SlKeysI
namespace Go.Proofs.YtmfhimphlackiaaDoor
open Go.RowKit Go.Maps Go.Sort Go.Shelf
open Num
set_option linter.unusedVariables false
/-- the pages that were hit, up to one -/
def hitL (ht : Int → Bool) : Nat → List Int
  | 0 => []
  | j + 1 => hitL ht j ++ (if ht j = true then [(j : Int)] else [])
theorem mem_hitL (ht : Int → Bool) (x : Int) : ∀ j : Nat, x ∈ hitL ht j ↔ ∃ i : Nat, i < j ∧ x = i ∧ ht x = true
  | 0 => by simp [hitL]
  | j + 1 => by
    rw [hitL, List.mem_append, mem_hitL ht x j]
    constructor
    · rintro (⟨i, h1, h2, h3⟩ | h)
      · exact ⟨i, by omega, h2, h3⟩
      · by_cases e : ht j = true
        · rw [if_pos e] at h
          have hx : x = j := by simpa using h
          exact ⟨j, by omega, hx, by rw [hx]; exact e⟩
        · rw [if_neg e] at h; cases h
    · rintro ⟨i, h1, h2, h3⟩
      by_cases e : i = j
      · subst e
        rw [h2] at h3 ⊢
        right; rw [if_pos h3]; simp
      · exact .inl ⟨i, by omega, h2, h3⟩
theorem hitL_lt (ht : Int → Bool) (j : Nat) {x : Int} (h : x ∈ hitL ht j) : 0 ≤ x ∧ x < j := by
  obtain ⟨i, h1, h2, _⟩ := (mem_hitL ht x j).1 h
  omega
theorem hitL_pw (ht : Int → Bool) : ∀ j : Nat, (hitL ht j).Pairwise (· < ·)
  | 0 => List.Pairwise.nil
  | j + 1 => by
    rw [hitL, List.pairwise_append]
    refine ⟨hitL_pw ht j, ?_, fun a ha b hb => ?_⟩
    · split <;> simp
    · have h1 := hitL_lt ht j ha
      split at hb
      · have : b = j := by simpa using hb
        omega
      · cases hb
theorem hitL_len (ht : Int → Bool) : ∀ j : Nat, (hitL ht j).length ≤ j
  | 0 => Nat.le_refl _
  | j + 1 => by
    have := hitL_len ht j
    rw [hitL, List.length_append]
    split <;> simp <;> omega
theorem hitL_congr {ht ht' : Int → Bool} : ∀ j : Nat, (∀ i : Nat, i < j → ht i = ht' i) → hitL ht j = hitL ht' j
  | 0, _ => rfl
  | j + 1, h => by rw [hitL, hitL, hitL_congr j (fun i hi => h i (by omega)), h j (by omega)]
/-- the keys of the set, sorted -/
theorem hits_sorted {w : World} {bh N : Nat} {D : DataW Unit} (hown : w.ownsMap Tryd.prog 3 unitElem bh N D) {ht : Int → Bool} (hD : ∀ x : Int, Maps.has D (.int .i64 x) = ht x) (ho : ∀ x, ht x = true → 0 ≤ x ∧ x < 64) {ss : List Int} (hp : ss.Perm (intKeys D)) :
    ss.mergeSort (fun x y => decide (x ≤ y)) = hitL ht 64 := by
  have hn : (hitL ht 64).Nodup := (hitL_pw ht 64).imp fun h => Int.ne_of_lt h
  have h1 : (hitL ht 64).Perm (intKeys D) := by
    obtain ⟨es, hE, hpw, _⟩ := hown.entries law3
    obtain ⟨es', hE', hko⟩ := hown.keysOf
    obtain rfl : es = es' := by rw [hE] at hE'; simpa using hE'
    subst hE
    refine perm_intKeys hpw (fun p hp => by obtain ⟨v, hv⟩ := hko p hp; obtain ⟨x, _, hx, _⟩ := Maps.keyOf_i64 Tryd.underlying3 hv; exact ⟨x, hx⟩) hn (fun x => ?_)
    rw [hD x, mem_hitL]
    constructor
    · rintro ⟨_, _, _, h⟩; exact h
    · intro h
      have := ho x h
      exact ⟨x.toNat, by omega, by omega, h⟩
  have h2 := mergeSort_of_perm_i (hp.trans h1.symm)
  have h3 : (hitL ht 64).mergeSort leI = hitL ht 64 := List.mergeSort_of_pairwise ((hitL_pw ht 64).imp fun h => by simp only [leI, decide_eq_true_eq]; omega)
  exact h2.trans h3
end Go.Proofs.YtmfhimphlackiaaDoor
