/-
  The document's words on ops: the fields of a kind, what an op writes and reads.
-/
import Derived.Test.YtflagpkmebdckaaGreatDoorKOptFns
namespace Go.Proofs.YtflagpkmebdckaaGreatDoor
open Go.RowKit
open Num
set_option linter.unusedVariables false
def hasB (l : List UInt8) (c : Int) : Bool := l.any fun b => (b.toNat : Int) == c
theorem hasB_take (l : List UInt8) (c : Int) (k : Nat) (h : k < l.length) : hasB (l.take (k + 1)) c = (hasB (l.take k) c || ((l[k].toNat : Int) == c)) := by
  unfold hasB
  rw [List.take_succ_eq_append_getElem h]; simp only [List.any_append, List.any_cons, List.any_nil, Bool.or_false]
theorem hasB_no (l : List UInt8) (c : Int) (k : Nat) (h : k < l.length) (hn : ((l[k].toNat : Int) == c) = true) : hasB l c = true := by
  unfold hasB
  exact List.any_eq_true.2 ⟨l[k], List.getElem_mem _, hn⟩
set_option maxHeartbeats 1000000 in
theorem isOf_any (l : List UInt8) (c : Int) (hl : l.length ≤ 10) (w : World) : Calls Tryz.prog 119 #[.string ⟨l.toArray⟩, .int .u8 c] w fun e w' => e = .returned (.bool (hasB l c)) ∧ w' = w := by
  have hz : (ByteArray.mk l.toArray).size = l.length := by simp [ByteArray.size]
  go_enter Tryz.func119, Tryz.ntmps119
  go_wp2
  go_loop [5] (fun i => ∃ k : Nat, k ≤ l.length ∧ i = .int .i64 k ∧ hasB (l.take k) c = false) (fun i => l.length - (intOf i).toNat)
  case atStart => exact ⟨0, Nat.zero_le _, rfl, rfl⟩
  case round =>
    obtain ⟨k, hk, rfl, hb⟩ := hrel
    have HB : Hid (hasB (l.take k) c = false) := hb
    clear hb
    by_cases hlt : k < l.length
    · have ht := hasB_take l c k hlt
      have HT : Hid (hasB (l.take (k + 1)) c = (hasB (l.take k) c || ((l[k].toNat : Int) == c))) := ht
      clear ht
      have hge : ∀ h, (ByteArray.mk l.toArray)[k]'h = l[k] := fun h => rfl
      by_cases he : ((l[k].toNat : Int) == c) = true
      · have hy : Hid (hasB l c = true) := hasB_no l c k hlt he
        go_wp2
        go_ret
        exact ⟨ret_bool hy.out.symm, rfl⟩
      · have he' : ((l[k].toNat : Int) == c) = false := by simpa using he
        clear he
        go_wp2
        go_round
        case rel => exact ⟨k + 1, by omega, by go_num, by rw [HT.out, HB.out, he']; rfl⟩
        case measure => simp [intOf]; omega
    · have e : Hid (hasB l c = false) := by rw [← HB.out, List.take_of_length_le (by omega)]; exact rfl
      go_wp2
      go_ret
      exact ⟨ret_bool e.out.symm, rfl⟩
end Go.Proofs.YtflagpkmebdckaaGreatDoor
/-
  The document's ReadsOf.
-/
namespace Go.Proofs.YtflagpkmebdckaaGreatDoor
open Go.RowKit Go.Maps
open Num
set_option linter.unusedVariables false
end Go.Proofs.YtflagpkmebdckaaGreatDoor
/-
  The document's OpError.
-/
namespace Go.Proofs.YtflagpkmebdckaaGreatDoor
open Go.RowKit
open Num
set_option linter.unusedVariables false
end Go.Proofs.YtflagpkmebdckaaGreatDoor
