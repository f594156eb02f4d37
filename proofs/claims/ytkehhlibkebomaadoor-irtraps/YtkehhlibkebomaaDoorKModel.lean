/-
  AlikeWords; model: a place's memory as the document has it.
-/
import Derived.WalkSmall
import Derived.Test.YtkehhlibkebomaaDoorKApp
import Derived.Test.YtkehhlibkebomaaDoorKDNew
namespace Go.Proofs.YtkehhlibkebomaaDoor
open Go.RowKit Go.Maps
open Num
set_option linter.unusedVariables false
theorem WordsIn.stays {w w' : World} {v : Value} {xs : List Int} (X : WordsIn w v xs) (h : Below w.heap.size w w') : WordsIn w' v xs := by
  obtain ⟨ao, cap, e, hc, hh⟩ := X.sh
  exact ⟨⟨ao, cap, e, hc, fun hp => let ⟨b, off, eb, hcell⟩ := hh hp; ⟨b, off, eb, fun i hi => (h.cell (World.block_lt_of_cell? _ _ (hcell i hi))).trans (hcell i hi)⟩⟩, X.wf⟩
end Go.Proofs.YtkehhlibkebomaaDoor
/-
  longPlace.
-/
namespace Go.Proofs.YtkehhlibkebomaaDoor
open Go.RowKit Go.Maps
open Num
set_option linter.unusedVariables false
set_option maxRecDepth 100000 in
set_option maxHeartbeats 1000000 in
theorem longPl_any {w : World} {ps : Array Value} {ao : Option Addr} {n cap : Nat} {ct : Int} (h43 : ps[43]? = some (.slice ao n cap)) (h42 : ps[42]? = some (.int .i64 ct)) :
    Calls Tryd.prog 6 #[.agg ps] w fun e w' => e = .returned (.bool (decide (200 < (n : Int)) || decide (ct < 0) || decide (1099511627776 < ct))) ∧ Below w.heap.size w w' := by
  have B0 : Hid (Below w.heap.size w (w.alloc (.cells ps 29))) := (Below.refl _ _).alloc (Nat.le_refl _) _
  have c43 : (w.alloc (.cells ps 29)).cell? ⟨w.heap.size, 43, none⟩ = some (.slice ao n cap) := by rw [World.cell?_alloc_at _ _ _ _ rfl]; exact h43
  have c42 : (w.alloc (.cells ps 29)).cell? ⟨w.heap.size, 42, none⟩ = some (.int .i64 ct) := by rw [World.cell?_alloc_at _ _ _ _ rfl]; exact h42
  clear h43 h42
  obtain ⟨R, hR⟩ : ∃ R, (decide (200 < (n : Int)) || decide (ct < 0) || decide (1099511627776 < ct)) = R := ⟨_, rfl⟩
  have HR : Hid ((decide (200 < (n : Int)) || decide (ct < 0) || decide (1099511627776 < ct)) = R) := hR
  rw [hR]
  clear hR
  go_enter Tryd.func6, Tryd.ntmps6
  go_upto_region 1 with fail
  generalize w.alloc (.cells ps 29) = W at *
  have q0 := World.block_lt_of_cell? _ _ c43
  by_cases h1 : 200 < (n : Int)
  · have E : Hid (R = true) := by show _ = _; rw [← HR.out]; simp [h1]
    clear HR
    go_wp2
    go_ret
    exact ⟨by rw [E.out]; rfl, B0.out⟩
  by_cases h2 : ct < 0
  · have E : Hid (R = true) := by show _ = _; rw [← HR.out]; simp [h2]
    clear HR
    go_wp2
    go_ret
    exact ⟨by rw [E.out]; rfl, B0.out⟩
  by_cases h3 : 1099511627776 < ct
  · have E : Hid (R = true) := by show _ = _; rw [← HR.out]; simp [h3]
    clear HR
    go_wp2
    go_ret
    exact ⟨by rw [E.out]; rfl, B0.out⟩
  · have E : Hid (R = false) := by show _ = _; rw [← HR.out]; simp [h1, h2, h3]
    clear HR
    go_wp2
    go_ret
    exact ⟨by rw [E.out]; rfl, B0.out⟩
end Go.Proofs.YtkehhlibkebomaaDoor
