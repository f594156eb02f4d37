/-
  What stands at a place.
-/
import Derived.Test.YtckcbnfobjmhpaaDoorRg0
namespace Go.Proofs.YtckcbnfobjmhpaaDoor
open Go.RowKit Go.Maps
open Num
set_option linter.unusedVariables false
section
variable {w0 w : World} {fb : Nat} {pc : Int} {sb most n st bp bw bh N : Nat} {m : Nat → Int} {wt ht : Int → Bool} {vi : Value}
set_option maxRecDepth 100000 in
set_option maxHeartbeats 1000000 in
/-- no room -/
theorem look_full (F : FAt w0 w fb pc sb most n st m vi) (fu : Nat) (hn : n ≤ 24) (hfu : fu ≤ 1) (hm : most ≤ 24) (h : most ≤ n + fu) :
    Calls Tryd.prog 67 #[.pointer (some ⟨fb, 0, none⟩), .int .i64 fu] w fun e w' => e = .returned (.tuple #[K.ins 0 0 0 0 0, .string ⟨#[]⟩, .bool false]) ∧ Below w.heap.size w w' := by
  have c1 := F.c1
  have c4 := F.c4
  have hlt := F.lt
  obtain ⟨p, c, rfl⟩ := F.len
  clear F
  have hn' : (n : Int) ≤ 24 := by omega
  have hfu' : (fu : Int) ≤ 1 := by omega
  have hm' : (most : Int) ≤ 24 := by omega
  have hd : decide ((most : Int) ≤ (n : Int) + fu) = true := by simp; omega
  go_enter Tryd.func67, Tryd.ntmps67
  go_wp2
  exact bodyPost_ret (results_cell2 Tryd.results67 _ _ _ (A := ⟨w.heap.size, 0, none⟩) rfl (ZAt.load (K.ZAt.alloc w))) rfl ⟨rfl, (Below.refl _ _).alloc (Nat.le_refl _) _⟩
end
end Go.Proofs.YtckcbnfobjmhpaaDoor
