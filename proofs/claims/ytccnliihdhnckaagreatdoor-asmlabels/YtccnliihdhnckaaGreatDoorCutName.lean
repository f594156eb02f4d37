/-
  cutName, for any text.
-/
import Derived.Test.YtccnliihdhnckaaGreatDoorIsName
namespace Go.Proofs.YtccnliihdhnckaaGreatDoor
open Go.RowKit Go.Shelf Go.Joins
open Num Tab Fm Txt
set_option linter.unusedVariables false
theorem lastOcc_bd (s sub : List UInt8) : ∀ k : Nat, -1 ≤ Lib.lastOcc s sub k ∧ Lib.lastOcc s sub k < k
  | 0 => by simp [Lib.lastOcc]
  | k + 1 => by
    have ih := lastOcc_bd s sub k
    unfold Lib.lastOcc
    split
    · omega
    · omega
/-- behind the last blank -/
def lsi (l : List UInt8) : Nat := (Lib.lastIndex l [32] + 1).toNat
theorem lsi_eq (l : List UInt8) : Lib.lastIndex l [32] + 1 = (lsi l : Int) ∧ lsi l ≤ l.length := by
  unfold lsi Lib.lastIndex
  split
  · rename_i h
    have := lastOcc_bd l [32] (l.length - [(32 : UInt8)].length + 1)
    simp at this h ⊢
    omega
  · simp
theorem cut_more (l : List UInt8) : (Lib.cut l [32]).2.2 = l.any (· == 32) := by
  unfold Lib.cut
  rw [idx_blank]
  by_cases h : l.any (· == 32) = true
  · rw [if_pos h, if_pos (by omega), h]
  · rw [if_neg h, if_neg (by omega)]; simp at h ⊢; intro x hx e; exact h (e ▸ hx)
theorem ext_from (l : List UInt8) (q : Nat) (h : q ≤ l.length) : (⟨l.toArray⟩ : ByteArray).extract q l.length = ⟨(l.drop q).toArray⟩ := by
  apply ByteArray.ext
  simp [ByteArray.data_extract]
  exact List.take_of_length_le (by simp)
def isBr (k : Nat) : Bool := kindI k == [98, 114, 97, 110, 99, 104]
def cutOk (l : List UInt8) : Bool := l.any (· == 32) && isBr (opOf (l.takeWhile isWord)) && isNm (l.drop (lsi l))
def cutT (l : List UInt8) : List UInt8 := if cutOk l then l.take (lsi l) ++ [48] else l
def cutN (l : List UInt8) : List UInt8 := if cutOk l then l.drop (lsi l) else []
set_option maxRecDepth 100000 in
set_option maxHeartbeats 1000000 in
theorem cutName_any (l : List UInt8) (hl : l.length ≤ 1000) (w : World) (b : Lb w) : Calls Tryz.prog 103 #[.string ⟨l.toArray⟩] w fun e w' => e = .returned (.tuple #[.string ⟨(cutT l).toArray⟩, .string ⟨(cutN l).toArray⟩]) ∧ Below w.heap.size w w' := by
  have hcu := cutF_any l (by omega) w b
  rw [cut_more] at hcu
  have hli : ∀ W : World, Calls Tryz.prog 125 #[.string ⟨l.toArray⟩, .string ⟨#[32]⟩] W fun e w' => e = .returned (.int .i64 (Lib.lastIndex l [32])) ∧ w' = W := fun W => Any.strings_LastIndex Tryz.l148 ⟨l.toArray⟩ ⟨#[32]⟩ (by simp [ByteArray.size]; omega) W
  obtain ⟨e1, hq⟩ := lsi_eq l
  have hq0 : Lib.lastIndex l [32] = (lsi l : Int) - 1 := by omega
  have HQ : Hid (Lib.lastIndex l [32] + 1 = (lsi l : Int)) := e1
  have hop := fun W => fun b : Lb W => oper_nm (l.takeWhile isWord) W b
  have hkl := opOf_lt (l.takeWhile isWord)
  have hki := fun W => kind_any (opOf (l.takeWhile isWord) : Int) W
  have hin := fun W => isName_any (l.drop (lsi l)) (by simp; omega) W
  have HB : Hid (Lb w) := b
  have HT : Hid (cutOk l = (l.any (· == 32) && isBr (opOf (l.takeWhile isWord)) && isNm (l.drop (lsi l))) ∧ cutT l = (if cutOk l then l.take (lsi l) ++ [48] else l) ∧ cutN l = (if cutOk l then l.drop (lsi l) else [])) := ⟨rfl, rfl, rfl⟩
  have hef := ext_from l (lsi l) hq
  have het := ext_take l (lsi l)
  clear b e1
  rw [hq0] at hli
  have hq1 : (lsi l : Int) ≤ l.length := by omega
  have hl' : (l.length : Int) ≤ 1000 := by omega
  generalize lsi l = q at *
  generalize opOf (l.takeWhile isWord) = k at *
  have hbr : isBr k = (kindI k == [98, 114, 97, 110, 99, 104]) := rfl
  have hbn : (kindI (k : Int) == [98, 114, 97, 110, 99, 104]) = isBr k := rfl
  clear hbr
  generalize isBr k = br at *
  generalize kindI (k : Int) = kk at *
  go_enter Tryz.func103, Tryz.ntmps103
  go_wp2_with fail
  refine hcu.mono ?_
  rintro e w1 ⟨r, rfl, n1, rfl⟩
  clear hcu
  go_wp2_with fail
  refine (hli _).mono ?_
  rintro e w2 ⟨rfl, rfl⟩
  clear hli
  have hqq : (q : Int) - 1 + 1 = q := by omega
  cases hmo : l.any (· == 32) with
  | false =>
    have HF : Hid (cutT l = l ∧ cutN l = []) := by
      have h := HT.out; rw [hmo] at h; simp at h; rw [h.1] at h; show cutT l = l ∧ cutN l = []; simpa using h.2
    go_wp2
    go_ret2
    exact ⟨by rw [HF.out.1, HF.out.2]; rfl, below_drewN (Below.refl _ _) _⟩
  | true =>
    go_wp2_with fail
    refine (hop _ (HB.out.drewN n1)).mono ?_
    rintro e w3 ⟨rfl, n3, rfl⟩
    go_wp2_with fail
    refine (hki _).mono ?_
    rintro e w4 ⟨rfl, rfl⟩
    cases br with
    | false =>
      have HF : Hid (cutT l = l ∧ cutN l = []) := by
        have h := HT.out; rw [hmo] at h; simp at h; rw [h.1] at h; show cutT l = l ∧ cutN l = []; simpa using h.2
      go_wp2
      go_ret2
      exact ⟨by rw [HF.out.1, HF.out.2]; rfl, below_drewN (Below.refl _ _) _⟩
    | true =>
      go_wp2_with fail
      refine (hin _).mono ?_
      rintro e w5 ⟨rfl, hb5⟩
      have B5 : Below w.heap.size w w5 := (below_drewN (Below.refl _ _) _).trans (hb5.mono (Nat.le_refl _))
      clear hin hb5
      cases hnm : isNm (l.drop q) with
      | false =>
        have HF : Hid (cutT l = l ∧ cutN l = []) := by
          have h := HT.out; rw [hmo, hnm] at h; simp at h; rw [h.1] at h; show cutT l = l ∧ cutN l = []; simpa using h.2
        go_wp2
        go_ret2
        exact ⟨by rw [HF.out.1, HF.out.2]; rfl, B5⟩
      | true =>
        have HF : Hid (cutT l = l.take q ++ [48] ∧ cutN l = l.drop q) := by
          have h := HT.out; rw [hmo, hnm] at h; simp at h; rw [h.1] at h; show cutT l = _ ∧ cutN l = _; simpa using h.2
        have hlt : ((l.take q).length : Int) ≤ 1000 := by simp; omega
        go_wp2_with fail
        go_region
        all_goals
          go_wp2
          go_ret2
          exact ⟨by rw [HF.out.1, HF.out.2]; first | rfl | simp, B5.drew⟩
end Go.Proofs.YtccnliihdhnckaaGreatDoor
