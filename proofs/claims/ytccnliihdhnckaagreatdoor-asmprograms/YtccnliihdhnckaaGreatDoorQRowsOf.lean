/-
  The document's table of operations, as the verifier's rows() lays it: one new block of cells.
-/
import Derived.Great.Walk
import Derived.Deep.Cut
import Derived.Test.YtccnliihdhnckaaGreatDoorQFns2
import Derived.Test.YtccnliihdhnckaaGreatDoorKTxt
namespace Go.Proofs.YtccnliihdhnckaaGreatDoor
open Go.RowKit
open Num Tab Fm Go.Great
set_option linter.unusedVariables false
/-- the names, and the order of the fields in a text -/
def str (l : List UInt8) : Value := .string ⟨l.toArray⟩
def kindR (k : Nat) : List UInt8 := if k = 0 then [] else kind k
/-- the cells of a row -/
def rowC (k : Nat) : List Value := [str (nme k), .int .i64 (mj k), .int .i64 (mn k), str (flds k), str (ordr k), str (kindR k)]
/-- the cells of all -/
def rowCells : Array Value := ((List.range 54).flatMap rowC).toArray
set_option maxRecDepth 100000 in
set_option maxHeartbeats 4000000 in
theorem rows_any (w : World) : Calls Tryz.prog 39 #[] w fun e w' => e = .returned (.slice (some ⟨w.heap.size, 0, none⟩) 54 54) ∧ w' = w.alloc (.cells rowCells 67) := by
  go_enter Tryz.func39, Tryz.ntmps39
  go_upto_region 1 with fail
  apply wp_region_lit
  refine wpList_buildTo rfl 67 _ rfl (some 1) rfl (rowC 0).toArray (by as_aux_lemma => kernel_rfl) ?_
  refine wpList_buildTo rfl 67 _ rfl (some 2) rfl (rowC 1).toArray (by as_aux_lemma => kernel_rfl) ?_
  refine wpList_buildTo rfl 67 _ rfl (some 3) rfl (rowC 2).toArray (by as_aux_lemma => kernel_rfl) ?_
  refine wpList_buildTo rfl 67 _ rfl (some 4) rfl (rowC 3).toArray (by as_aux_lemma => kernel_rfl) ?_
  refine wpList_buildTo rfl 67 _ rfl (some 5) rfl (rowC 4).toArray (by as_aux_lemma => kernel_rfl) ?_
  refine wpList_buildTo rfl 67 _ rfl (some 6) rfl (rowC 5).toArray (by as_aux_lemma => kernel_rfl) ?_
  refine wpList_buildTo rfl 67 _ rfl (some 7) rfl (rowC 6).toArray (by as_aux_lemma => kernel_rfl) ?_
  refine wpList_buildTo rfl 67 _ rfl (some 8) rfl (rowC 7).toArray (by as_aux_lemma => kernel_rfl) ?_
  refine wpList_buildTo rfl 67 _ rfl (some 9) rfl (rowC 8).toArray (by as_aux_lemma => kernel_rfl) ?_
  refine wpList_buildTo rfl 67 _ rfl (some 10) rfl (rowC 9).toArray (by as_aux_lemma => kernel_rfl) ?_
  refine wpList_buildTo rfl 67 _ rfl (some 11) rfl (rowC 10).toArray (by as_aux_lemma => kernel_rfl) ?_
  refine wpList_buildTo rfl 67 _ rfl (some 12) rfl (rowC 11).toArray (by as_aux_lemma => kernel_rfl) ?_
  refine wpList_buildTo rfl 67 _ rfl (some 13) rfl (rowC 12).toArray (by as_aux_lemma => kernel_rfl) ?_
  refine wpList_buildTo rfl 67 _ rfl (some 14) rfl (rowC 13).toArray (by as_aux_lemma => kernel_rfl) ?_
  refine wpList_buildTo rfl 67 _ rfl (some 15) rfl (rowC 14).toArray (by as_aux_lemma => kernel_rfl) ?_
  refine wpList_buildTo rfl 67 _ rfl (some 16) rfl (rowC 15).toArray (by as_aux_lemma => kernel_rfl) ?_
  refine wpList_buildTo rfl 67 _ rfl (some 17) rfl (rowC 16).toArray (by as_aux_lemma => kernel_rfl) ?_
  refine wpList_buildTo rfl 67 _ rfl (some 18) rfl (rowC 17).toArray (by as_aux_lemma => kernel_rfl) ?_
  refine wpList_buildTo rfl 67 _ rfl (some 19) rfl (rowC 18).toArray (by as_aux_lemma => kernel_rfl) ?_
  refine wpList_buildTo rfl 67 _ rfl (some 20) rfl (rowC 19).toArray (by as_aux_lemma => kernel_rfl) ?_
  refine wpList_buildTo rfl 67 _ rfl (some 21) rfl (rowC 20).toArray (by as_aux_lemma => kernel_rfl) ?_
  refine wpList_buildTo rfl 67 _ rfl (some 22) rfl (rowC 21).toArray (by as_aux_lemma => kernel_rfl) ?_
  refine wpList_buildTo rfl 67 _ rfl (some 23) rfl (rowC 22).toArray (by as_aux_lemma => kernel_rfl) ?_
  refine wpList_buildTo rfl 67 _ rfl (some 24) rfl (rowC 23).toArray (by as_aux_lemma => kernel_rfl) ?_
  refine wpList_buildTo rfl 67 _ rfl (some 25) rfl (rowC 24).toArray (by as_aux_lemma => kernel_rfl) ?_
  refine wpList_buildTo rfl 67 _ rfl (some 26) rfl (rowC 25).toArray (by as_aux_lemma => kernel_rfl) ?_
  refine wpList_buildTo rfl 67 _ rfl (some 27) rfl (rowC 26).toArray (by as_aux_lemma => kernel_rfl) ?_
  refine wpList_buildTo rfl 67 _ rfl (some 28) rfl (rowC 27).toArray (by as_aux_lemma => kernel_rfl) ?_
  refine wpList_buildTo rfl 67 _ rfl (some 29) rfl (rowC 28).toArray (by as_aux_lemma => kernel_rfl) ?_
  refine wpList_buildTo rfl 67 _ rfl (some 30) rfl (rowC 29).toArray (by as_aux_lemma => kernel_rfl) ?_
  refine wpList_buildTo rfl 67 _ rfl (some 31) rfl (rowC 30).toArray (by as_aux_lemma => kernel_rfl) ?_
  refine wpList_buildTo rfl 67 _ rfl (some 32) rfl (rowC 31).toArray (by as_aux_lemma => kernel_rfl) ?_
  refine wpList_buildTo rfl 67 _ rfl (some 33) rfl (rowC 32).toArray (by as_aux_lemma => kernel_rfl) ?_
  refine wpList_buildTo rfl 67 _ rfl (some 34) rfl (rowC 33).toArray (by as_aux_lemma => kernel_rfl) ?_
  refine wpList_buildTo rfl 67 _ rfl (some 35) rfl (rowC 34).toArray (by as_aux_lemma => kernel_rfl) ?_
  refine wpList_buildTo rfl 67 _ rfl (some 36) rfl (rowC 35).toArray (by as_aux_lemma => kernel_rfl) ?_
  refine wpList_buildTo rfl 67 _ rfl (some 37) rfl (rowC 36).toArray (by as_aux_lemma => kernel_rfl) ?_
  refine wpList_buildTo rfl 67 _ rfl (some 38) rfl (rowC 37).toArray (by as_aux_lemma => kernel_rfl) ?_
  refine wpList_buildTo rfl 67 _ rfl (some 39) rfl (rowC 38).toArray (by as_aux_lemma => kernel_rfl) ?_
  refine wpList_buildTo rfl 67 _ rfl (some 40) rfl (rowC 39).toArray (by as_aux_lemma => kernel_rfl) ?_
  refine wpList_buildTo rfl 67 _ rfl (some 41) rfl (rowC 40).toArray (by as_aux_lemma => kernel_rfl) ?_
  refine wpList_buildTo rfl 67 _ rfl (some 42) rfl (rowC 41).toArray (by as_aux_lemma => kernel_rfl) ?_
  refine wpList_buildTo rfl 67 _ rfl (some 43) rfl (rowC 42).toArray (by as_aux_lemma => kernel_rfl) ?_
  refine wpList_buildTo rfl 67 _ rfl (some 44) rfl (rowC 43).toArray (by as_aux_lemma => kernel_rfl) ?_
  refine wpList_buildTo rfl 67 _ rfl (some 45) rfl (rowC 44).toArray (by as_aux_lemma => kernel_rfl) ?_
  refine wpList_buildTo rfl 67 _ rfl (some 46) rfl (rowC 45).toArray (by as_aux_lemma => kernel_rfl) ?_
  refine wpList_buildTo rfl 67 _ rfl (some 47) rfl (rowC 46).toArray (by as_aux_lemma => kernel_rfl) ?_
  refine wpList_buildTo rfl 67 _ rfl (some 48) rfl (rowC 47).toArray (by as_aux_lemma => kernel_rfl) ?_
  refine wpList_buildTo rfl 67 _ rfl (some 49) rfl (rowC 48).toArray (by as_aux_lemma => kernel_rfl) ?_
  refine wpList_buildTo rfl 67 _ rfl (some 50) rfl (rowC 49).toArray (by as_aux_lemma => kernel_rfl) ?_
  refine wpList_buildTo rfl 67 _ rfl (some 51) rfl (rowC 50).toArray (by as_aux_lemma => kernel_rfl) ?_
  refine wpList_buildTo rfl 67 _ rfl (some 52) rfl (rowC 51).toArray (by as_aux_lemma => kernel_rfl) ?_
  refine wpList_buildTo rfl 67 _ rfl (some 53) rfl (rowC 52).toArray (by as_aux_lemma => kernel_rfl) ?_
  refine wpList_buildTo rfl 67 _ rfl (some 54) rfl (rowC 53).toArray (by as_aux_lemma => kernel_rfl) ?_
  refine wpList_buildSliceTo rfl 80 67 54 _ rfl w.heap.size rfl (some 55) rfl (by as_aux_lemma => kernel_rfl) rowCells (by as_aux_lemma => kernel_rfl) ?_
  refine wpList_frame (a' := ⟨#[.slice none 0 0, .agg (rowC 0).toArray, .agg (rowC 1).toArray, .agg (rowC 2).toArray, .agg (rowC 3).toArray, .agg (rowC 4).toArray, .agg (rowC 5).toArray, .agg (rowC 6).toArray, .agg (rowC 7).toArray, .agg (rowC 8).toArray, .agg (rowC 9).toArray, .agg (rowC 10).toArray, .agg (rowC 11).toArray, .agg (rowC 12).toArray, .agg (rowC 13).toArray, .agg (rowC 14).toArray, .agg (rowC 15).toArray, .agg (rowC 16).toArray, .agg (rowC 17).toArray, .agg (rowC 18).toArray, .agg (rowC 19).toArray, .agg (rowC 20).toArray, .agg (rowC 21).toArray, .agg (rowC 22).toArray, .agg (rowC 23).toArray, .agg (rowC 24).toArray, .agg (rowC 25).toArray, .agg (rowC 26).toArray, .agg (rowC 27).toArray, .agg (rowC 28).toArray, .agg (rowC 29).toArray, .agg (rowC 30).toArray, .agg (rowC 31).toArray, .agg (rowC 32).toArray, .agg (rowC 33).toArray, .agg (rowC 34).toArray, .agg (rowC 35).toArray, .agg (rowC 36).toArray, .agg (rowC 37).toArray, .agg (rowC 38).toArray, .agg (rowC 39).toArray, .agg (rowC 40).toArray, .agg (rowC 41).toArray, .agg (rowC 42).toArray, .agg (rowC 43).toArray, .agg (rowC 44).toArray, .agg (rowC 45).toArray, .agg (rowC 46).toArray, .agg (rowC 47).toArray, .agg (rowC 48).toArray, .agg (rowC 49).toArray, .agg (rowC 50).toArray, .agg (rowC 51).toArray, .agg (rowC 52).toArray, .agg (rowC 53).toArray, .slice (some ⟨w.heap.size, 0, none⟩) 54 54], []⟩) (by as_aux_lemma => kernel_rfl) ?_
  go_wp2
  go_ret
  exact ⟨rfl, rfl⟩
/-- one row's cells among all -/
theorem flat6 {α : Type} (f : Nat → List α) (h : ∀ k, (f k).length = 6) : ∀ (n s k j : Nat), k < n → j < 6 → ((List.range' s n).flatMap f)[6 * k + j]? = (f (s + k))[j]?
  | 0, s, k, j, hk, hj => absurd hk (by omega)
  | n + 1, s, k, j, hk, hj => by
    rw [List.range'_succ, List.flatMap_cons]
    cases k with
    | zero => rw [List.getElem?_append_left (by rw [h]; omega)]; simp
    | succ k =>
      rw [List.getElem?_append_right (by rw [h]; omega), h, show 6 * (k + 1) + j - 6 = 6 * k + j by omega, flat6 f h n (s + 1) k j (by omega) hj, show s + 1 + k = s + (k + 1) by omega]
theorem rowCells_at (k : Nat) (hk : k < 54) (j : Nat) (hj : j < 6) : rowCells[6 * k + j]? = (rowC k)[j]? := by
  have := flat6 rowC (fun _ => rfl) 54 0 k j hk hj
  rw [Nat.zero_add] at this
  rw [← this, ← List.range_eq_range']
  unfold rowCells
  simp
end Go.Proofs.YtccnliihdhnckaaGreatDoor
