/-
  Rising numbers: what is among them.
-/
import Derived.Test.YtcccaejjhodnkaaDoorKpGet
namespace Go.Proofs.YtcccaejjhodnkaaDoor
open Go.RowKit
set_option linter.unusedVariables false
theorem mem_compactK {zs : List Int} {x : Int} : x ∈ Lib.compact zs ↔ x ∈ zs := by
  have at_ : ∀ i (hi : i < zs.length), zs.toArray[i]! = zs[i] := fun i hi => by simp [getElem!_pos, hi]
  constructor
  · intro h
    unfold Lib.compact Lib.compactUpTo at h
    obtain ⟨i, hi, rfl⟩ := List.mem_map.1 h
    have hi' : i < zs.length := List.mem_range.1 (List.mem_filter.1 hi).1
    rw [at_ i hi']; exact List.getElem_mem hi'
  · intro h
    obtain ⟨i, hi, rfl⟩ := List.getElem_of_mem h
    have key : ∀ n, ∀ i (hi : i < zs.length), i ≤ n → zs[i] ∈ Lib.compact zs := by
      intro n
      induction n with
      | zero =>
        intro i hi h0
        obtain rfl : i = 0 := by omega
        unfold Lib.compact Lib.compactUpTo
        exact List.mem_map.2 ⟨0, List.mem_filter.2 ⟨List.mem_range.2 hi, Lib.keeps_lt_one _ 0 (by omega)⟩, at_ 0 hi⟩
      | succ n ih =>
        intro i hi h0
        by_cases hc : Lib.keeps zs.toArray i = true
        · unfold Lib.compact Lib.compactUpTo
          exact List.mem_map.2 ⟨i, List.mem_filter.2 ⟨List.mem_range.2 hi, hc⟩, at_ i hi⟩
        · have hc' := hc
          unfold Lib.keeps at hc'
          simp at hc'
          obtain ⟨h1, h2⟩ := hc'
          have hi1 : i - 1 < zs.length := by omega
          have h3 : zs[i] = zs[i - 1] := by
            have e1 := at_ i hi
            have e2 := at_ (i - 1) hi1
            simp at e1 e2
            rw [← e1, ← e2]; first | exact h2 | exact h2.symm
          rw [h3]
          exact ih (i - 1) hi1 (by omega)
    exact key i i hi (Nat.le_refl _)
theorem mem_rise {zs : List Int} {x : Int} : x ∈ rise zs ↔ x ∈ zs := by
  unfold rise
  rw [mem_compactK]
  exact (List.mergeSort_perm zs _).mem_iff
theorem rise_len (zs : List Int) : (rise zs).length ≤ zs.length := by
  unfold rise
  have h1 := Lib.compact_length_le (zs.mergeSort fun x y => decide (x ≤ y))
  have h2 : (zs.mergeSort fun x y => decide (x ≤ y)).length = zs.length := List.length_mergeSort zs
  omega
theorem rise_one (z : Int) : rise [z] = [z] := by
  unfold rise
  rw [List.mergeSort_singleton]
  rfl
theorem mem_allPg {l : List Kx} {z : Int} : z ∈ allPg l ↔ ∃ x ∈ l, z ∈ x.zs := by unfold allPg; simp
/-- one op in a row of its own -/
theorem rows_one {W : World} {bo br : Nat} {o : Opx} (ok : o.ok) (h1 : W.heap[bo]? = some (.cells #[.string o.s, .int .i64 o.d, .int .i64 o.a, .int .i64 o.b, .int .u32 o.i, .int .i64 o.t] 60 (0, 0))) (h2 : W.heap[br]? = some (.cells #[.slice (some ⟨bo, 0, none⟩) 1 1] 22 (0, 0))) :
    RowsI W (.slice (some ⟨br, 0, none⟩) 1 1) [[o]] := by
  refine ⟨_, 1, rfl, by simp, fun _ => ⟨br, 0, rfl, fun i row hi => ?_⟩⟩
  have hi0 : i = 0 := by have := (List.getElem?_eq_some_iff.1 hi).1; simpa using this
  subst hi0
  obtain rfl : [o] = row := by simpa using hi
  refine ⟨_, by rw [cell_of_row _ _ _ _ _ _ h2]; rfl, ⟨⟨_, 1, rfl, by simp, fun _ => ⟨bo, 0, rfl, fun i o' hi' j u hu => ?_⟩⟩, fun o' ho => by rw [List.mem_singleton.1 ho]; exact ok⟩⟩
  have hi0 : i = 0 := by have := (List.getElem?_eq_some_iff.1 hi').1; simpa using this
  subst hi0
  obtain rfl : o = o' := by simpa using hi'
  rw [cell_of_row _ _ _ _ _ _ h1, show 0 + 0 * 6 + j = j by omega]
  rw [List.getElem?_toArray]; exact hu
theorem ints_one {W : World} {bg : Nat} {z : Int} (h : W.heap[bg]? = some (.cells #[.int .i64 z] 3 (0, 0))) : IntsAt W (.slice (some ⟨bg, 0, none⟩) 1 1) [z] := by
  refine .inr ⟨bg, 0, 1, rfl, by simp, (Array.getElem?_eq_some_iff.1 h).1, fun j hj => ?_⟩
  have hj0 : j = 0 := by simpa using hj
  subst hj0
  rw [cell_of_row _ _ _ _ _ _ h]; rfl
/-- the op that goes on at imm -/
def outO (imm : Int) : Opx := ⟨⟨#[111, 117, 116]⟩, 0, 0, 0, imm, 0⟩
theorem planF_out0 : planF 1 [[outO 0]] = (0, -1) := by kernel_rfl
theorem planF_out8 : planF 1 [[outO 8]] = (0, -1) := by kernel_rfl
theorem outO_ok (imm : Int) (h0 : 0 ≤ imm) (h1 : imm < 4294967296) : (outO imm).ok := by
  refine ⟨?_, ?_, ?_, ?_, ?_, ?_, ?_, ?_, ?_, ?_⟩ <;> simp [outO] <;> omega
end Go.Proofs.YtcccaejjhodnkaaDoor
