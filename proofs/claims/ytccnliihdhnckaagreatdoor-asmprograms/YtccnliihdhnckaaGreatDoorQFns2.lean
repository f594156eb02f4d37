/-
  What Fields and Kind of package code answer, and IsOf and Part of the verifier's.
-/
import Derived.Test.YtccnliihdhnckaaGreatDoorQFns
namespace Go.Proofs.YtccnliihdhnckaaGreatDoor
open Go.RowKit
open Num Tab
set_option linter.unusedVariables false
/-- fields of any number -/
def fieldsI (op : Int) : List UInt8 := if 0 ≤ op ∧ op < 54 then flds op.toNat else []
/-- the kind of any number -/
def kindI (op : Int) : List UInt8 := if 0 ≤ op ∧ op < 54 then kind op.toNat else []
theorem fields_none : ∀ k : Nat, k < 54 → flds k = [] ∨ k = 1 ∨ k = 2 ∨ k = 3 ∨ k = 4 ∨ k = 5 ∨ k = 6 ∨ k = 7 ∨ k = 8 ∨ (11 ≤ k ∧ k ≤ 44) ∨ (46 ≤ k ∧ k ≤ 53) := by decide
set_option maxHeartbeats 4000000 in
theorem fields_any (op : Int) (w : World) : Calls Tryz.prog 54 #[.int .i64 op] w fun e w' => e = .returned (.string ⟨(fieldsI op).toArray⟩) ∧ w' = w := by
  go_enter Tryz.func54, Tryz.ntmps54
  go_wp2
  all_goals go_ret
  all_goals refine ⟨?_, rfl⟩
  all_goals
    first
    | (rename_i h; have h := eq_of_beq h; subst h; exact rfl)
    | (have e : fieldsI op = [] := by
         unfold fieldsI
         by_cases hr : 0 ≤ op ∧ op < 54
         · rw [if_pos hr]
           have := fields_none op.toNat (by omega)
           rcases this with h | h
           · exact h
           · exfalso
             simp only [beq_eq_false_iff_ne, ne_eq] at *
             omega
         · rw [if_neg hr]
       rw [e]; rfl)
theorem kind_rest : ∀ k : Nat, k < 54 → kind k = [115, 117, 109] ∨ k = 0 ∨ k = 7 ∨ k = 8 ∨ k = 9 ∨ k = 10 ∨ (29 ≤ k ∧ k ≤ 34) ∨ (43 ≤ k ∧ k ≤ 53) := by decide
set_option maxHeartbeats 4000000 in
theorem kind_any (op : Int) (w : World) : Calls Tryz.prog 126 #[.int .i64 op] w fun e w' => e = .returned (.string ⟨(kindI op).toArray⟩) ∧ w' = w := by
  by_cases hr : 0 < op ∧ op < 54
  all_goals
    go_enter Tryz.func126, Tryz.ntmps126
    go_wp2_with (go_at_call 60; refine (isOp_any _ _).mono ?_; rintro e w' ⟨rfl, rfl⟩)
  all_goals go_ret
  all_goals refine ⟨?_, rfl⟩
  all_goals
    first
    | (rename_i h; have h := eq_of_beq h; subst h; exact rfl)
    | (have e : kindI op = [115, 117, 109] := by
         unfold kindI
         rw [if_pos (by omega)]
         have := kind_rest op.toNat (by omega)
         rcases this with h | h
         · exact h
         · exfalso
           simp only [beq_eq_false_iff_ne, ne_eq] at *
           omega
       rw [e]; rfl)
    | (have e : kindI op = [] := by
         unfold kindI
         simp only [beq_eq_false_iff_ne, ne_eq] at *
         rw [if_neg (by omega)]
       rw [e]; rfl)
/-- has a text a letter -/
def hasB (l : List UInt8) (c : Int) : Bool := l.any fun b => (b.toNat : Int) == c
theorem hasB_take (l : List UInt8) (c : Int) (k : Nat) (h : k < l.length) : hasB (l.take (k + 1)) c = (hasB (l.take k) c || ((l[k].toNat : Int) == c)) := by
  unfold hasB
  rw [List.take_succ_eq_append_getElem h]; simp only [List.any_append, List.any_cons, List.any_nil, Bool.or_false]
theorem hasB_no (l : List UInt8) (c : Int) (k : Nat) (h : k < l.length) (hn : ((l[k].toNat : Int) == c) = true) : hasB l c = true := by
  unfold hasB
  exact List.any_eq_true.2 ⟨l[k], List.getElem_mem _, hn⟩
set_option maxHeartbeats 1000000 in
theorem isOf_any (l : List UInt8) (c : Int) (hl : l.length ≤ 10) (w : World) : Calls Tryz.prog 32 #[.string ⟨l.toArray⟩, .int .u8 c] w fun e w' => e = .returned (.bool (hasB l c)) ∧ w' = w := by
  have hz : (ByteArray.mk l.toArray).size = l.length := by simp [ByteArray.size]
  go_enter Tryz.func32, Tryz.ntmps32
  go_wp2
  go_loop [5] (fun i => ∃ k : Nat, k ≤ l.length ∧ i = .int .i64 k ∧ hasB (l.take k) c = false) (fun i => l.length - (intOf i).toNat)
  case atStart => exact ⟨0, Nat.zero_le _, rfl, rfl⟩
  case round =>
    obtain ⟨k, hk, rfl, hb⟩ := hrel
    have HB : Hid (hasB (l.take k) c = false) := hb
    clear hb
    by_cases hlt : k < l.length
    · have ht := hasB_take l c k hlt
      have HT : Hid (hasB (l.take (k + 1)) c = (hasB (l.take k) c || ((l[k].toNat : Int) == c))) := ht
      clear ht
      have hge : ∀ h, (ByteArray.mk l.toArray)[k]'h = l[k] := fun h => rfl
      by_cases he : ((l[k].toNat : Int) == c) = true
      · have hy : Hid (hasB l c = true) := hasB_no l c k hlt he
        go_wp2
        go_ret
        exact ⟨ret_bool hy.out.symm, rfl⟩
      · have he' : ((l[k].toNat : Int) == c) = false := by simpa using he
        clear he
        go_wp2
        go_round
        case rel => exact ⟨k + 1, by omega, by go_num, by rw [HT.out, HB.out, he']; rfl⟩
        case measure => simp [intOf]; omega
    · have e : Hid (hasB l c = false) := by rw [← HB.out, List.take_of_length_le (by omega)]; exact rfl
      go_wp2
      go_ret
      exact ⟨ret_bool e.out.symm, rfl⟩
theorem part_eq (a up bits : Int) : shf 62 a up = a / pw up ∧ shf 60 1 bits = lo (1 * pw bits) := by unfold shf; simp
set_option maxHeartbeats 1000000 in
theorem part_any (a up bits : Int) (h0 : 0 ≤ a) (h1 : a < 4294967296) (g0 : 0 ≤ up) (g1 : up < 32) (b0 : 0 ≤ bits) (b1 : bits < 32) (w : World) :
    Calls Tryz.prog 78 #[.int .u32 a, .int .i64 up, .int .i64 bits] w fun e w' => e = .returned (.int .i64 (a / pw up % pw bits)) ∧ w' = w := by
  have s1 := shf_bd (k := 62) (n := up) h0 h1
  have hp := pw_bd bits
  have he := (part_eq a up bits).1
  have hf : shf 60 1 bits = pw bits := by rw [(part_eq a up bits).2, Int.one_mul]; exact lo_of (by omega) (by omega)
  rw [← hf] at hp
  have HE : Hid (shf 62 a up = a / pw up ∧ shf 60 1 bits = pw bits) := ⟨he, hf⟩
  clear he hf
  have hz : ¬ shf 60 1 bits = 0 := by omega
  go_enter Tryz.func78, Tryz.ntmps78
  go_wp2_with (go_at_call 105; refine (shiftOf_any _ _ _ (by omega) (by omega) (by omega) _).mono ?_; rintro e w' ⟨rfl, rfl⟩)
  go_ret
  exact ⟨ret_int (by rw [HE.out.1, HE.out.2]), rfl⟩
end Go.Proofs.YtccnliihdhnckaaGreatDoor
