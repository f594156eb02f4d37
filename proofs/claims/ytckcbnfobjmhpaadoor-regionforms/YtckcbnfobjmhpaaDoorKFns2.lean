/-
  What Fields and Kind of package code answer, and IsOf and Part of the verifier's.
-/
import Derived.Test.YtckcbnfobjmhpaaDoorKFns
namespace Go.Proofs.YtckcbnfobjmhpaaDoor.K
open Go.RowKit
open Num Tab
set_option linter.unusedVariables false
/-- fields of any number -/
def fieldsI (op : Int) : List UInt8 := if 0 ≤ op ∧ op < 54 then flds op.toNat else []
/-- the kind of any number -/
def kindI (op : Int) : List UInt8 := if 0 ≤ op ∧ op < 54 then kind op.toNat else []
theorem all54 {P : Int → Prop} (h : ∀ k : Nat, k < 54 → P k) (op : Int) (h0 : 0 ≤ op) (h1 : op < 54) : P op := by
  have := h op.toNat (by omega)
  rwa [Int.toNat_of_nonneg h0] at this
theorem fields_none : ∀ k : Nat, k < 54 → flds k = [] ∨ k = 1 ∨ k = 2 ∨ k = 3 ∨ k = 4 ∨ k = 5 ∨ k = 6 ∨ k = 7 ∨ k = 8 ∨ (11 ≤ k ∧ k ≤ 44) ∨ (46 ≤ k ∧ k ≤ 53) := by decide
set_option maxHeartbeats 4000000 in
theorem fields_any (op : Int) (w : World) : Calls Tryd.prog 52 #[.int .i64 op] w fun e w' => e = .returned (.string ⟨(fieldsI op).toArray⟩) ∧ w' = w := by
  go_enter Tryd.func52, Tryd.ntmps52
  go_wp2
  all_goals go_ret
  all_goals refine ⟨?_, rfl⟩
  all_goals
    first
    | (rename_i h; have h := eq_of_beq h; subst h; exact rfl)
    | (have e : fieldsI op = [] := by
         unfold fieldsI
         by_cases hr : 0 ≤ op ∧ op < 54
         · rw [if_pos hr]
           have := fields_none op.toNat (by omega)
           rcases this with h | h
           · exact h
           · exfalso
             simp only [beq_eq_false_iff_ne, ne_eq] at *
             omega
         · rw [if_neg hr]
       rw [e]; rfl)
theorem kind_rest : ∀ k : Nat, k < 54 → kind k = [115, 117, 109] ∨ k = 0 ∨ k = 7 ∨ k = 8 ∨ k = 9 ∨ k = 10 ∨ (29 ≤ k ∧ k ≤ 34) ∨ (43 ≤ k ∧ k ≤ 53) := by decide
set_option maxHeartbeats 4000000 in
theorem kind_any (op : Int) (w : World) : Calls Tryd.prog 33 #[.int .i64 op] w fun e w' => e = .returned (.string ⟨(kindI op).toArray⟩) ∧ w' = w := by
  by_cases hr : 0 < op ∧ op < 54
  all_goals
    go_enter Tryd.func33, Tryd.ntmps33
    go_wp2_with (go_at_call 51; refine (isOp_any _ _).mono ?_; rintro e w' ⟨rfl, rfl⟩)
  all_goals go_ret
  all_goals refine ⟨?_, rfl⟩
  all_goals
    first
    | (rename_i h; have h := eq_of_beq h; subst h; exact rfl)
    | (have e : kindI op = [115, 117, 109] := by
         unfold kindI
         rw [if_pos (by omega)]
         have := kind_rest op.toNat (by omega)
         rcases this with h | h
         · exact h
         · exfalso
           simp only [beq_eq_false_iff_ne, ne_eq] at *
           omega
       rw [e]; rfl)
    | (have e : kindI op = [] := by
         unfold kindI
         simp only [beq_eq_false_iff_ne, ne_eq] at *
         rw [if_neg (by omega)]
       rw [e]; rfl)
/-- has a text a letter -/
def hasB (l : List UInt8) (c : Int) : Bool := l.any fun b => (b.toNat : Int) == c
theorem hasB_take (l : List UInt8) (c : Int) (k : Nat) (h : k < l.length) : hasB (l.take (k + 1)) c = (hasB (l.take k) c || ((l[k].toNat : Int) == c)) := by
  unfold hasB
  rw [List.take_succ_eq_append_getElem h]; simp only [List.any_append, List.any_cons, List.any_nil, Bool.or_false]
theorem hasB_no (l : List UInt8) (c : Int) (k : Nat) (h : k < l.length) (hn : ((l[k].toNat : Int) == c) = true) : hasB l c = true := by
  unfold hasB
  exact List.any_eq_true.2 ⟨l[k], List.getElem_mem _, hn⟩
theorem part_eq (a up bits : Int) : shf 62 a up = a / pw up ∧ shf 60 1 bits = lo (1 * pw bits) := by unfold shf; simp
end Go.Proofs.YtckcbnfobjmhpaaDoor.K
