/-
  The document's words on ops: the fields of a kind, what an op writes and reads.
-/
import Derived.Test.YtcccaejjhodnkabGreatDoorKOptFns
namespace Go.Proofs.YtcccaejjhodnkabGreatDoor
open Go.RowKit
open Num
set_option linter.unusedVariables false
def hasB (l : List UInt8) (c : Int) : Bool := l.any fun b => (b.toNat : Int) == c
theorem hasB_take (l : List UInt8) (c : Int) (k : Nat) (h : k < l.length) : hasB (l.take (k + 1)) c = (hasB (l.take k) c || ((l[k].toNat : Int) == c)) := by
  unfold hasB
  rw [List.take_succ_eq_append_getElem h]; simp only [List.any_append, List.any_cons, List.any_nil, Bool.or_false]
theorem hasB_no (l : List UInt8) (c : Int) (k : Nat) (h : k < l.length) (hn : ((l[k].toNat : Int) == c) = true) : hasB l c = true := by
  unfold hasB
  exact List.any_eq_true.2 ⟨l[k], List.getElem_mem _, hn⟩
set_option maxHeartbeats 1000000 in
theorem isOf_any (l : List UInt8) (c : Int) (hl : l.length ≤ 10) (w : World) : Calls Tryz.prog 60 #[.string ⟨l.toArray⟩, .int .u8 c] w fun e w' => e = .returned (.bool (hasB l c)) ∧ w' = w := by
  have hz : (ByteArray.mk l.toArray).size = l.length := by simp [ByteArray.size]
  go_enter Tryz.func60, Tryz.ntmps60
  go_wp2
  go_loop [5] (fun i => ∃ k : Nat, k ≤ l.length ∧ i = .int .i64 k ∧ hasB (l.take k) c = false) (fun i => l.length - (intOf i).toNat)
  case atStart => exact ⟨0, Nat.zero_le _, rfl, rfl⟩
  case round =>
    obtain ⟨k, hk, rfl, hb⟩ := hrel
    have HB : Hid (hasB (l.take k) c = false) := hb
    clear hb
    by_cases hlt : k < l.length
    · have ht := hasB_take l c k hlt
      have HT : Hid (hasB (l.take (k + 1)) c = (hasB (l.take k) c || ((l[k].toNat : Int) == c))) := ht
      clear ht
      have hge : ∀ h, (ByteArray.mk l.toArray)[k]'h = l[k] := fun h => rfl
      by_cases he : ((l[k].toNat : Int) == c) = true
      · have hy : Hid (hasB l c = true) := hasB_no l c k hlt he
        go_wp2
        go_ret
        exact ⟨ret_bool hy.out.symm, rfl⟩
      · have he' : ((l[k].toNat : Int) == c) = false := by simpa using he
        clear he
        go_wp2
        go_round
        case rel => exact ⟨k + 1, by omega, by go_num, by rw [HT.out, HB.out, he']; rfl⟩
        case measure => simp [intOf]; omega
    · have e : Hid (hasB l c = false) := by rw [← HB.out, List.take_of_length_le (by omega)]; exact rfl
      go_wp2
      go_ret
      exact ⟨ret_bool e.out.symm, rfl⟩
/-- the letters of a kind's fields -/
def fldL (k : Nat) : List UInt8 := if k = 1 then [68, 73] else if k = 2 then [68, 65] else if 3 ≤ k ∧ k ≤ 20 then [68, 65, 66] else if k = 21 ∨ k = 22 then [65, 66] else if k = 23 ∨ k = 24 then [68, 65, 66, 73] else if k = 25 then [65, 73] else if k = 26 then [73] else if k = 27 then [65] else []
set_option maxHeartbeats 1000000 in
theorem fieldsOf_1 (w : World) : Calls Tryz.prog 59 #[.string ⟨#[115, 101, 116]⟩] w fun e w' => e = .returned (.string ⟨#[68, 73]⟩) ∧ w' = w := by
  go_enter Tryz.func59, Tryz.ntmps59
  go_wp2
  go_ret
  exact ⟨rfl, rfl⟩
set_option maxHeartbeats 1000000 in
theorem fieldsOf_2 (w : World) : Calls Tryz.prog 59 #[.string ⟨#[99, 111, 112, 121]⟩] w fun e w' => e = .returned (.string ⟨#[68, 65]⟩) ∧ w' = w := by
  go_enter Tryz.func59, Tryz.ntmps59
  go_wp2
  go_ret
  exact ⟨rfl, rfl⟩
set_option maxHeartbeats 1000000 in
theorem fieldsOf_3 (w : World) : Calls Tryz.prog 59 #[.string ⟨#[97, 100, 100]⟩] w fun e w' => e = .returned (.string ⟨#[68, 65, 66]⟩) ∧ w' = w := by
  go_enter Tryz.func59, Tryz.ntmps59
  go_wp2
  go_ret
  exact ⟨rfl, rfl⟩
set_option maxHeartbeats 1000000 in
theorem fieldsOf_4 (w : World) : Calls Tryz.prog 59 #[.string ⟨#[115, 117, 98]⟩] w fun e w' => e = .returned (.string ⟨#[68, 65, 66]⟩) ∧ w' = w := by
  go_enter Tryz.func59, Tryz.ntmps59
  go_wp2
  go_ret
  exact ⟨rfl, rfl⟩
set_option maxHeartbeats 1000000 in
theorem fieldsOf_5 (w : World) : Calls Tryz.prog 59 #[.string ⟨#[97, 110, 100]⟩] w fun e w' => e = .returned (.string ⟨#[68, 65, 66]⟩) ∧ w' = w := by
  go_enter Tryz.func59, Tryz.ntmps59
  go_wp2
  go_ret
  exact ⟨rfl, rfl⟩
set_option maxHeartbeats 1000000 in
theorem fieldsOf_6 (w : World) : Calls Tryz.prog 59 #[.string ⟨#[111, 114]⟩] w fun e w' => e = .returned (.string ⟨#[68, 65, 66]⟩) ∧ w' = w := by
  go_enter Tryz.func59, Tryz.ntmps59
  go_wp2
  go_ret
  exact ⟨rfl, rfl⟩
set_option maxHeartbeats 1000000 in
theorem fieldsOf_7 (w : World) : Calls Tryz.prog 59 #[.string ⟨#[120, 111, 114]⟩] w fun e w' => e = .returned (.string ⟨#[68, 65, 66]⟩) ∧ w' = w := by
  go_enter Tryz.func59, Tryz.ntmps59
  go_wp2
  go_ret
  exact ⟨rfl, rfl⟩
set_option maxHeartbeats 1000000 in
theorem fieldsOf_8 (w : World) : Calls Tryz.prog 59 #[.string ⟨#[110, 111, 114]⟩] w fun e w' => e = .returned (.string ⟨#[68, 65, 66]⟩) ∧ w' = w := by
  go_enter Tryz.func59, Tryz.ntmps59
  go_wp2
  go_ret
  exact ⟨rfl, rfl⟩
set_option maxHeartbeats 1000000 in
theorem fieldsOf_9 (w : World) : Calls Tryz.prog 59 #[.string ⟨#[115, 108, 116]⟩] w fun e w' => e = .returned (.string ⟨#[68, 65, 66]⟩) ∧ w' = w := by
  go_enter Tryz.func59, Tryz.ntmps59
  go_wp2
  go_ret
  exact ⟨rfl, rfl⟩
set_option maxHeartbeats 1000000 in
theorem fieldsOf_10 (w : World) : Calls Tryz.prog 59 #[.string ⟨#[115, 108, 116, 117]⟩] w fun e w' => e = .returned (.string ⟨#[68, 65, 66]⟩) ∧ w' = w := by
  go_enter Tryz.func59, Tryz.ntmps59
  go_wp2
  go_ret
  exact ⟨rfl, rfl⟩
set_option maxHeartbeats 1000000 in
theorem fieldsOf_11 (w : World) : Calls Tryz.prog 59 #[.string ⟨#[115, 104, 108]⟩] w fun e w' => e = .returned (.string ⟨#[68, 65, 66]⟩) ∧ w' = w := by
  go_enter Tryz.func59, Tryz.ntmps59
  go_wp2
  go_ret
  exact ⟨rfl, rfl⟩
set_option maxHeartbeats 1000000 in
theorem fieldsOf_12 (w : World) : Calls Tryz.prog 59 #[.string ⟨#[115, 104, 114]⟩] w fun e w' => e = .returned (.string ⟨#[68, 65, 66]⟩) ∧ w' = w := by
  go_enter Tryz.func59, Tryz.ntmps59
  go_wp2
  go_ret
  exact ⟨rfl, rfl⟩
set_option maxHeartbeats 1000000 in
theorem fieldsOf_13 (w : World) : Calls Tryz.prog 59 #[.string ⟨#[115, 97, 114]⟩] w fun e w' => e = .returned (.string ⟨#[68, 65, 66]⟩) ∧ w' = w := by
  go_enter Tryz.func59, Tryz.ntmps59
  go_wp2
  go_ret
  exact ⟨rfl, rfl⟩
set_option maxHeartbeats 1000000 in
theorem fieldsOf_14 (w : World) : Calls Tryz.prog 59 #[.string ⟨#[109, 117, 108]⟩] w fun e w' => e = .returned (.string ⟨#[68, 65, 66]⟩) ∧ w' = w := by
  go_enter Tryz.func59, Tryz.ntmps59
  go_wp2
  go_ret
  exact ⟨rfl, rfl⟩
set_option maxHeartbeats 1000000 in
theorem fieldsOf_15 (w : World) : Calls Tryz.prog 59 #[.string ⟨#[109, 117, 108, 104]⟩] w fun e w' => e = .returned (.string ⟨#[68, 65, 66]⟩) ∧ w' = w := by
  go_enter Tryz.func59, Tryz.ntmps59
  go_wp2
  go_ret
  exact ⟨rfl, rfl⟩
set_option maxHeartbeats 1000000 in
theorem fieldsOf_16 (w : World) : Calls Tryz.prog 59 #[.string ⟨#[109, 117, 108, 104, 117]⟩] w fun e w' => e = .returned (.string ⟨#[68, 65, 66]⟩) ∧ w' = w := by
  go_enter Tryz.func59, Tryz.ntmps59
  go_wp2
  go_ret
  exact ⟨rfl, rfl⟩
set_option maxHeartbeats 1000000 in
theorem fieldsOf_17 (w : World) : Calls Tryz.prog 59 #[.string ⟨#[113, 117, 111]⟩] w fun e w' => e = .returned (.string ⟨#[68, 65, 66]⟩) ∧ w' = w := by
  go_enter Tryz.func59, Tryz.ntmps59
  go_wp2
  go_ret
  exact ⟨rfl, rfl⟩
set_option maxHeartbeats 1000000 in
theorem fieldsOf_18 (w : World) : Calls Tryz.prog 59 #[.string ⟨#[114, 101, 109]⟩] w fun e w' => e = .returned (.string ⟨#[68, 65, 66]⟩) ∧ w' = w := by
  go_enter Tryz.func59, Tryz.ntmps59
  go_wp2
  go_ret
  exact ⟨rfl, rfl⟩
set_option maxHeartbeats 1000000 in
theorem fieldsOf_19 (w : World) : Calls Tryz.prog 59 #[.string ⟨#[113, 117, 111, 117]⟩] w fun e w' => e = .returned (.string ⟨#[68, 65, 66]⟩) ∧ w' = w := by
  go_enter Tryz.func59, Tryz.ntmps59
  go_wp2
  go_ret
  exact ⟨rfl, rfl⟩
set_option maxHeartbeats 1000000 in
theorem fieldsOf_20 (w : World) : Calls Tryz.prog 59 #[.string ⟨#[114, 101, 109, 117]⟩] w fun e w' => e = .returned (.string ⟨#[68, 65, 66]⟩) ∧ w' = w := by
  go_enter Tryz.func59, Tryz.ntmps59
  go_wp2
  go_ret
  exact ⟨rfl, rfl⟩
set_option maxHeartbeats 1000000 in
theorem fieldsOf_21 (w : World) : Calls Tryz.prog 59 #[.string ⟨#[111, 118, 101, 114, 43]⟩] w fun e w' => e = .returned (.string ⟨#[65, 66]⟩) ∧ w' = w := by
  go_enter Tryz.func59, Tryz.ntmps59
  go_wp2
  go_ret
  exact ⟨rfl, rfl⟩
set_option maxHeartbeats 1000000 in
theorem fieldsOf_22 (w : World) : Calls Tryz.prog 59 #[.string ⟨#[111, 118, 101, 114, 45]⟩] w fun e w' => e = .returned (.string ⟨#[65, 66]⟩) ∧ w' = w := by
  go_enter Tryz.func59, Tryz.ntmps59
  go_wp2
  go_ret
  exact ⟨rfl, rfl⟩
set_option maxHeartbeats 1000000 in
theorem fieldsOf_23 (w : World) : Calls Tryz.prog 59 #[.string ⟨#[108, 111, 97, 100]⟩] w fun e w' => e = .returned (.string ⟨#[68, 65, 66, 73]⟩) ∧ w' = w := by
  go_enter Tryz.func59, Tryz.ntmps59
  go_wp2
  go_ret
  exact ⟨rfl, rfl⟩
set_option maxHeartbeats 1000000 in
theorem fieldsOf_24 (w : World) : Calls Tryz.prog 59 #[.string ⟨#[115, 116, 111, 114, 101]⟩] w fun e w' => e = .returned (.string ⟨#[68, 65, 66, 73]⟩) ∧ w' = w := by
  go_enter Tryz.func59, Tryz.ntmps59
  go_wp2
  go_ret
  exact ⟨rfl, rfl⟩
set_option maxHeartbeats 1000000 in
theorem fieldsOf_25 (w : World) : Calls Tryz.prog 59 #[.string ⟨#[105, 102]⟩] w fun e w' => e = .returned (.string ⟨#[65, 73]⟩) ∧ w' = w := by
  go_enter Tryz.func59, Tryz.ntmps59
  go_wp2
  go_ret
  exact ⟨rfl, rfl⟩
set_option maxHeartbeats 1000000 in
theorem fieldsOf_26 (w : World) : Calls Tryz.prog 59 #[.string ⟨#[111, 117, 116]⟩] w fun e w' => e = .returned (.string ⟨#[73]⟩) ∧ w' = w := by
  go_enter Tryz.func59, Tryz.ntmps59
  go_wp2
  go_ret
  exact ⟨rfl, rfl⟩
set_option maxHeartbeats 1000000 in
theorem fieldsOf_27 (w : World) : Calls Tryz.prog 59 #[.string ⟨#[111, 117, 116, 114]⟩] w fun e w' => e = .returned (.string ⟨#[65]⟩) ∧ w' = w := by
  go_enter Tryz.func59, Tryz.ntmps59
  go_wp2
  go_ret
  exact ⟨rfl, rfl⟩
set_option maxHeartbeats 8000000 in
theorem fieldsOf_0 (s : ByteArray) (h1 : (s.toList == [115, 101, 116]) = false) (h2 : (s.toList == [99, 111, 112, 121]) = false) (h3 : (s.toList == [97, 100, 100]) = false) (h4 : (s.toList == [115, 117, 98]) = false) (h5 : (s.toList == [97, 110, 100]) = false) (h6 : (s.toList == [111, 114]) = false) (h7 : (s.toList == [120, 111, 114]) = false) (h8 : (s.toList == [110, 111, 114]) = false) (h9 : (s.toList == [115, 108, 116]) = false) (h10 : (s.toList == [115, 108, 116, 117]) = false) (h11 : (s.toList == [115, 104, 108]) = false) (h12 : (s.toList == [115, 104, 114]) = false) (h13 : (s.toList == [115, 97, 114]) = false) (h14 : (s.toList == [109, 117, 108]) = false) (h15 : (s.toList == [109, 117, 108, 104]) = false) (h16 : (s.toList == [109, 117, 108, 104, 117]) = false) (h17 : (s.toList == [113, 117, 111]) = false) (h18 : (s.toList == [114, 101, 109]) = false) (h19 : (s.toList == [113, 117, 111, 117]) = false) (h20 : (s.toList == [114, 101, 109, 117]) = false) (h21 : (s.toList == [111, 118, 101, 114, 43]) = false) (h22 : (s.toList == [111, 118, 101, 114, 45]) = false) (h23 : (s.toList == [108, 111, 97, 100]) = false) (h24 : (s.toList == [115, 116, 111, 114, 101]) = false) (h25 : (s.toList == [105, 102]) = false) (h26 : (s.toList == [111, 117, 116]) = false) (h27 : (s.toList == [111, 117, 116, 114]) = false) (w : World) : Calls Tryz.prog 59 #[.string s] w fun e w' => e = .returned (.string ⟨#[]⟩) ∧ w' = w := by
  go_enter Tryz.func59, Tryz.ntmps59
  go_wp2
  go_ret
  exact ⟨rfl, rfl⟩
theorem fieldsOf_any (s : ByteArray) (w : World) : Calls Tryz.prog 59 #[.string s] w fun e w' => e = .returned (.string ⟨(fldL (kn s)).toArray⟩) ∧ w' = w := by
  by_cases h : kn s = 0
  · rw [h]; exact fieldsOf_0 s (kn_ne h 1 (by omega) (by omega)) (kn_ne h 2 (by omega) (by omega)) (kn_ne h 3 (by omega) (by omega)) (kn_ne h 4 (by omega) (by omega)) (kn_ne h 5 (by omega) (by omega)) (kn_ne h 6 (by omega) (by omega)) (kn_ne h 7 (by omega) (by omega)) (kn_ne h 8 (by omega) (by omega)) (kn_ne h 9 (by omega) (by omega)) (kn_ne h 10 (by omega) (by omega)) (kn_ne h 11 (by omega) (by omega)) (kn_ne h 12 (by omega) (by omega)) (kn_ne h 13 (by omega) (by omega)) (kn_ne h 14 (by omega) (by omega)) (kn_ne h 15 (by omega) (by omega)) (kn_ne h 16 (by omega) (by omega)) (kn_ne h 17 (by omega) (by omega)) (kn_ne h 18 (by omega) (by omega)) (kn_ne h 19 (by omega) (by omega)) (kn_ne h 20 (by omega) (by omega)) (kn_ne h 21 (by omega) (by omega)) (kn_ne h 22 (by omega) (by omega)) (kn_ne h 23 (by omega) (by omega)) (kn_ne h 24 (by omega) (by omega)) (kn_ne h 25 (by omega) (by omega)) (kn_ne h 26 (by omega) (by omega)) (kn_ne h 27 (by omega) (by omega)) w
  · have hs := kn_word h
    have hl := kn_lt s
    generalize kn s = k at *
    subst hs
    have hk : k = 1 ∨ k = 2 ∨ k = 3 ∨ k = 4 ∨ k = 5 ∨ k = 6 ∨ k = 7 ∨ k = 8 ∨ k = 9 ∨ k = 10 ∨ k = 11 ∨ k = 12 ∨ k = 13 ∨ k = 14 ∨ k = 15 ∨ k = 16 ∨ k = 17 ∨ k = 18 ∨ k = 19 ∨ k = 20 ∨ k = 21 ∨ k = 22 ∨ k = 23 ∨ k = 24 ∨ k = 25 ∨ k = 26 ∨ k = 27 := by omega
    rcases hk with rfl | rfl | rfl | rfl | rfl | rfl | rfl | rfl | rfl | rfl | rfl | rfl | rfl | rfl | rfl | rfl | rfl | rfl | rfl | rfl | rfl | rfl | rfl | rfl | rfl | rfl | rfl
    · exact fieldsOf_1 w
    · exact fieldsOf_2 w
    · exact fieldsOf_3 w
    · exact fieldsOf_4 w
    · exact fieldsOf_5 w
    · exact fieldsOf_6 w
    · exact fieldsOf_7 w
    · exact fieldsOf_8 w
    · exact fieldsOf_9 w
    · exact fieldsOf_10 w
    · exact fieldsOf_11 w
    · exact fieldsOf_12 w
    · exact fieldsOf_13 w
    · exact fieldsOf_14 w
    · exact fieldsOf_15 w
    · exact fieldsOf_16 w
    · exact fieldsOf_17 w
    · exact fieldsOf_18 w
    · exact fieldsOf_19 w
    · exact fieldsOf_20 w
    · exact fieldsOf_21 w
    · exact fieldsOf_22 w
    · exact fieldsOf_23 w
    · exact fieldsOf_24 w
    · exact fieldsOf_25 w
    · exact fieldsOf_26 w
    · exact fieldsOf_27 w
theorem isOf_fld (k : Nat) (c : Int) (w : World) : Calls Tryz.prog 60 #[.string ⟨(fldL k).toArray⟩, .int .u8 c] w fun e w' => e = .returned (.bool (hasB (fldL k) c)) ∧ w' = w := isOf_any (fldL k) c (by unfold fldL; (repeat' split) <;> decide) w
theorem fld_D (k : Nat) (h : k < 28) : hasB (fldL k) 68 = decide (rD k ≠ 0) := by revert k; decide
theorem fld_A (k : Nat) (h : k < 28) : hasB (fldL k) 65 = decide (rA k ≠ 0) := by revert k; decide
theorem fld_B (k : Nat) (h : k < 28) : hasB (fldL k) 66 = decide (rB k ≠ 0) := by revert k; decide
theorem fld_I (k : Nat) (h : k < 28) : hasB (fldL k) 73 = rI k := by revert k; decide
theorem wrX_D (o : Opx) : wrX o = if (hasB (fldL (kn o.s)) 68 && !(decide (kn o.s = 24))) = true then o.d else 0 := by
  rw [fld_D _ (kn_lt o.s)]
  unfold wrX Opx.k
  have hl := kn_lt o.s
  generalize kn o.s = k at *
  congr 1
  apply propext
  unfold rD
  simp only [Bool.and_eq_true, decide_eq_true_eq, Bool.not_eq_true', decide_eq_false_iff_not]
  by_cases h1 : 1 ≤ k ∧ k ≤ 20 ∨ k = 23
  · simp [h1]; omega
  · by_cases h2 : k = 24 <;> simp [h1, h2]
theorem bcD {w : World} {o : Opx} {j : Nat} : (w.alloc (.cells #[.string o.s, .int .i64 o.d, .int .i64 o.a, .int .i64 o.b, .int .u32 o.i, .int .i64 o.t] 64)).cell? ⟨w.heap.size, j, none⟩ = (#[.string o.s, .int .i64 o.d, .int .i64 o.a, .int .i64 o.b, .int .u32 o.i, .int .i64 o.t] : Array Value)[j]? := cell_of_row _ _ _ _ _ _ (heap_alloc_new w _)
set_option maxHeartbeats 1000000 in
theorem writeOf_any (o : Opx) (w : World) : Calls Tryz.prog 43 #[opV o] w fun e w' => e = .returned (.int .i64 (wrX o)) ∧ Below w.heap.size w w' := by
  have hf := fun w => fieldsOf_any o.s w
  have hi := fun w => isOf_fld (kn o.s) 68 w
  have h24 := kn_eq o.s 24 (by omega) (by omega)
  have HW : Hid (wrX o = if (hasB (fldL (kn o.s)) 68 && !(o.s.toList == [115, 116, 111, 114, 101])) = true then o.d else 0) := by
    show _ = _; rw [wrX_D, show (o.s.toList == [115, 116, 111, 114, 101]) = _ from h24]
  clear h24
  have hB : Hid (Below w.heap.size w (w.alloc (.cells #[.string o.s, .int .i64 o.d, .int .i64 o.a, .int .i64 o.b, .int .u32 o.i, .int .i64 o.t] 64))) := (Below.refl _ _).alloc (Nat.le_refl _) _
  unfold opV
  generalize hasB (fldL (kn o.s)) 68 = x1 at *
  generalize (⟨(fldL (kn o.s)).toArray⟩ : ByteArray) = fs at *
  cases hx2 : (o.s.toList == [115, 116, 111, 114, 101])
  all_goals
    rw [hx2] at HW
    cases x1
    all_goals
      go_enter Tryz.func43, Tryz.ntmps43
      go_wp2_with fail
      refine (hf _).mono ?_
      rintro e w1 ⟨rfl, rfl⟩
      go_wp2_with fail
      refine (hi _).mono ?_
      rintro e w1 ⟨rfl, rfl⟩
      go_wp2
      go_ret
      exact ⟨by rw [HW.out]; rfl, hB.out⟩
end Go.Proofs.YtcccaejjhodnkabGreatDoor
