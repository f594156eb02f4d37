/-
  The document's answer: what is a label's name; of what kind a line is; a word's number.
-/
import Derived.Test.YtccnliihdhnckaaGreatDoorQRowOf
import Derived.Test.YtccnliihdhnckaaGreatDoorKCutName
import Derived.Test.YtccnliihdhnckaaGreatDoorQPlain
import Derived.Test.YtccnliihdhnckaaGreatDoorQRegAt
namespace Go.Proofs.YtccnliihdhnckaaGreatDoor
open Go.RowKit Go.Shelf Go.Joins
open Num Tab Fm Txt
set_option linter.unusedVariables false
theorem isNm_short {l : List UInt8} (h : (l.length : Int) < 1) : isNm l = false := by
  cases l with
  | nil => rfl
  | cons a t => simp at h; omega
theorem isNm_long {l : List UInt8} (h : 12 < (l.length : Int)) : isNm l = false := by
  unfold isNm; rw [decide_eq_false (by omega)]; rfl
theorem isNm_mid {l : List UInt8} (h : ¬ (l.length : Int) < 1) (g : ¬ 12 < (l.length : Int)) : isNm l = (letB (l.headD 0) && l.all nmB) := by
  unfold isNm
  rw [decide_eq_true (⟨fun e => by subst e; simp at h, by omega⟩ : l ≠ [] ∧ l.length ≤ 12)]
  rfl
theorem head0 {l : List UInt8} (h : 0 < l.length) : l.headD 0 = l[0] := by
  cases l with
  | nil => simp at h
  | cons a t => rfl
theorem isNm_at {l : List UInt8} {p : Nat} (hp : p < l.length) (h : nmB l[p] = false) : isNm l = false := by
  unfold isNm
  have : l.all nmB = false := by
    rw [← List.take_append_drop (p + 1) l, List.all_append, all_take hp, h]; simp
  rw [this]; simp
theorem isNm_first {l : List UInt8} (hp : 0 < l.length) (h : letB l[0] = false) : isNm l = false := by
  unfold isNm
  rw [head0 hp, h]; simp
set_option maxRecDepth 100000 in
set_option maxHeartbeats 2000000 in
theorem isLabel_any (l : List UInt8) (hl : l.length ≤ 1000) (w : World) : Calls Tryz.prog 47 #[.string ⟨l.toArray⟩] w fun e w' => e = .returned (.bool (isNm l)) ∧ w' = w := by
  have hl' : (l.length : Int) ≤ 1000 := by omega
  by_cases h1 : (l.length : Int) < 1
  · rw [isNm_short h1]
    go_enter Tryz.func47, Tryz.ntmps47
    go_wp2
    go_ret
    exact ⟨rfl, rfl⟩
  by_cases h12 : 12 < (l.length : Int)
  · rw [isNm_long h12]
    go_enter Tryz.func47, Tryz.ntmps47
    go_wp2
    go_ret
    exact ⟨rfl, rfl⟩
  have HM : Hid (isNm l = (letB (l.headD 0) && l.all nmB)) := isNm_mid h1 h12
  have h0l : 0 < l.length := by omega
  go_enter Tryz.func47, Tryz.ntmps47
  go_wp2_with fail
  go_loop [3] (fun x => ∃ p : Nat, p ≤ l.length ∧ x = .int .i64 p ∧ Hid ((p = 0 ∨ letB (l.headD 0) = true) ∧ (l.take p).all nmB = true)) (fun x => 2000 - (intOf x).toNat)
  case atStart => exact ⟨0, Nat.zero_le _, rfl, ⟨Or.inl rfl, rfl⟩⟩
  case round =>
    obtain ⟨p, hp, rfl, HA⟩ := hrel
    have p0 : (0 : Int) ≤ p := by omega
    rcases Nat.lt_or_ge p l.length with hpl | hpl
    · have hlt' : (p : Int) < l.length := by omega
      have hiq : ∀ h, (⟨l.toArray⟩ : ByteArray)[p]'h = l[p] := fun _ => rfl
      have HN : Hid (nmB l[p] = (letB l[p] || decide (48 ≤ l[p].toNat ∧ l[p].toNat ≤ 57))) := rfl
      have HL : Hid (letB l[p] = decide (97 ≤ l[p].toNat ∧ l[p].toNat ≤ 122)) := rfl
      have HT := all_take hpl
      have HTH : Hid ((l.take (p + 1)).all nmB = ((l.take p).all nmB && nmB l[p])) := HT
      clear HT
      by_cases d1 : (97 : Int) ≤ l[p].toNat
      · by_cases d2 : (l[p].toNat : Int) ≤ 122
        · have d3 : (48 : Int) ≤ l[p].toNat := by omega
          have d4 : ¬ (l[p].toNat : Int) ≤ 57 := by omega
          have HG : Hid ((p + 1 = 0 ∨ letB (l.headD 0) = true) ∧ (l.take (p + 1)).all nmB = true) := by
            have e1 : letB l[p] = true := by rw [HL.out]; exact decide_eq_true (by omega)
            refine ⟨Or.inr ?_, by rw [HTH.out, HA.out.2, HN.out, e1]; rfl⟩
            rcases HA.out.1 with h | h
            · subst h; rw [head0 h0l]; exact e1
            · exact h
          clear HTH HN HL HA
          go_wp2
          go_round
          case rel => exact ⟨p + 1, by omega, by go_num, HG.out⟩
          case measure => simp [intOf]; omega
        · have d3 : (48 : Int) ≤ l[p].toNat := by omega
          have d4 : ¬ (l[p].toNat : Int) ≤ 57 := by omega
          have HF : Hid (isNm l = false) := by
            exact isNm_at hpl (by rw [HN.out, HL.out, decide_eq_false (by omega), decide_eq_false (by omega)]; rfl)
          clear HTH HN HL HA HM
          go_wp2
          go_ret
          exact ⟨ret_bool HF.out.symm, rfl⟩
      · by_cases d3 : (48 : Int) ≤ l[p].toNat
        · by_cases d4 : (l[p].toNat : Int) ≤ 57
          · rcases Nat.eq_zero_or_pos p with hz | hz
            · subst hz
              have HF : Hid (isNm l = false) := by
                exact isNm_first h0l (by rw [HL.out]; exact decide_eq_false (by omega))
              clear HTH HN HL HA HM
              go_wp2
              go_ret
              exact ⟨ret_bool HF.out.symm, rfl⟩
            · have hz' : (0 : Int) < p := by omega
              have hz2 : ((p : Int) == 0) = false := by simp; omega
              have HG : Hid ((p + 1 = 0 ∨ letB (l.headD 0) = true) ∧ (l.take (p + 1)).all nmB = true) := by
                refine ⟨Or.inr ?_, by rw [HTH.out, HA.out.2, HN.out, decide_eq_true (⟨by omega, by omega⟩ : 48 ≤ l[p].toNat ∧ l[p].toNat ≤ 57)]; simp⟩
                rcases HA.out.1 with h | h
                · omega
                · exact h
              clear HTH HN HL HA
              go_wp2
              go_round
              case rel => exact ⟨p + 1, by omega, by go_num, HG.out⟩
              case measure => simp [intOf]; omega
          · have HF : Hid (isNm l = false) := by
              exact isNm_at hpl (by rw [HN.out, HL.out, decide_eq_false (by omega), decide_eq_false (by omega)]; rfl)
            clear HTH HN HL HA HM
            go_wp2
            go_ret
            exact ⟨ret_bool HF.out.symm, rfl⟩
        · have HF : Hid (isNm l = false) := by
            exact isNm_at hpl (by rw [HN.out, HL.out, decide_eq_false (by omega), decide_eq_false (by omega)]; rfl)
          clear HTH HN HL HA HM
          go_wp2
          go_ret
          exact ⟨ret_bool HF.out.symm, rfl⟩
    · have hlt' : ¬ (p : Int) < l.length := by omega
      have HG : Hid (isNm l = true) := by
        rw [HM.out]
        have e : l.take p = l := List.take_of_length_le hpl
        have h2 := HA.out.2
        rw [e] at h2
        rcases HA.out.1 with h | h
        · omega
        · rw [h, h2]; rfl
      clear HA HM
      go_wp2
      go_ret
      exact ⟨ret_bool HG.out.symm, rfl⟩
/-- of what kind a line is -/
def lkOf (l : List UInt8) : Int := if Lib.hasSuffix l [58] then 108 else if Lib.hasPrefix l [46, 119, 111, 114, 100] then 119 else 105
theorem lk_nil : lkOf [] = 105 := by decide
theorem suf_last {l : List UInt8} {n : Nat} (h : l.length = n + 1) : Lib.hasSuffix l [58] = ((l[n]'(by omega)).toNat == 58) := by
  unfold Lib.hasSuffix
  have e : l = l.take n ++ [l[n]'(by omega)] := by rw [← List.take_succ_eq_append_getElem (by omega), List.take_of_length_le (by omega)]
  rw [Bool.eq_iff_iff, List.isSuffixOf_iff_suffix]
  constructor
  · rintro ⟨t, ht⟩
    have hn : n = t.length := by have := congrArg List.length ht; simp at this; omega
    subst hn
    have : l[t.length]'(by omega) = 58 := by simp [← ht]
    rw [this]; rfl
  · intro h2
    have : l[n]'(by omega) = 58 := UInt8.toNat_inj.mp (by simpa using h2)
    exact ⟨l.take n, by rw [← this]; exact e.symm⟩
theorem pre_take {l : List UInt8} (h : 5 ≤ l.length) : Lib.hasPrefix l [46, 119, 111, 114, 100] = (l.take 5 == [46, 119, 111, 114, 100]) := by
  unfold Lib.hasPrefix
  rw [Bool.eq_iff_iff, List.isPrefixOf_iff_prefix, beq_iff_eq]
  constructor
  · rintro ⟨t, ht⟩; rw [← ht]; rfl
  · intro e; exact ⟨l.drop 5, by rw [← e]; exact List.take_append_drop 5 l⟩
theorem pre_short {l : List UInt8} (h : l.length < 5) : Lib.hasPrefix l [46, 119, 111, 114, 100] = false := by
  unfold Lib.hasPrefix
  rw [Bool.eq_false_iff]
  intro e
  obtain ⟨t, ht⟩ := List.isPrefixOf_iff_prefix.1 e
  have := congrArg List.length ht
  simp at this; omega
set_option maxRecDepth 100000 in
set_option maxHeartbeats 2000000 in
theorem lineKind_any (l : List UInt8) (hl : l.length ≤ 1000) (w : World) : Calls Tryz.prog 46 #[.string ⟨l.toArray⟩] w fun e w' => e = .returned (.int .u8 (lkOf l)) ∧ w' = w := by
  have hl' : (l.length : Int) ≤ 1000 := by omega
  have het := ext_take l 5
  cases hn : l.length with
  | zero =>
    have e : l = [] := List.eq_nil_of_length_eq_zero hn
    subst e
    rw [lk_nil]
    clear hn
    go_enter Tryz.func46, Tryz.ntmps46
    go_wp2
    go_ret
    exact ⟨rfl, rfl⟩
  | succ n =>
    have hz : (l.length : Int) - 1 = n := by omega
    have hp : (0 : Int) < l.length := by omega
    have n0 : (0 : Int) ≤ n := by omega
    have n1 : (n : Int) < l.length := by omega
    have hnl : n < l.length := by omega
    have hiq : ∀ h, (⟨l.toArray⟩ : ByteArray)[n]'h = l[n]'hnl := fun _ => rfl
    have HS : Hid (Lib.hasSuffix l [58] = ((l[n]'hnl).toNat == 58)) := suf_last hn
    by_cases d : ((l[n]'hnl).toNat : Int) = 58
    · have db : (((l[n]'hnl).toNat : Int) == 58) = true := by simpa using d
      have HK : Hid (lkOf l = 108) := by
        show lkOf l = 108
        unfold lkOf; rw [HS.out, show ((l[n]'hnl).toNat == 58) = true by simp; omega, if_pos rfl]
      rw [HK.out]
      clear HK HS d hn
      go_enter Tryz.func46, Tryz.ntmps46
      go_wp2
      go_ret
      exact ⟨rfl, rfl⟩
    · have db : (((l[n]'hnl).toNat : Int) == 58) = false := by simpa using d
      have HK : Hid (lkOf l = if Lib.hasPrefix l [46, 119, 111, 114, 100] then 119 else 105) := by
        show lkOf l = _
        unfold lkOf; rw [HS.out, show ((l[n]'hnl).toNat == 58) = false by simp; omega, if_neg (by decide)]
      clear HS d
      by_cases d5 : (5 : Int) ≤ l.length
      · have HP : Hid (Lib.hasPrefix l [46, 119, 111, 114, 100] = (l.take 5 == [46, 119, 111, 114, 100])) := pre_take (by omega)
        generalize l.take 5 = t5 at het HP
        cases h5 : t5 == [46, 119, 111, 114, 100] with
        | true =>
          have HK2 : Hid (lkOf l = 119) := by show _ = _; rw [HK.out, HP.out, h5, if_pos rfl]
          rw [HK2.out]
          clear HK HP HK2 hn
          go_enter Tryz.func46, Tryz.ntmps46
          go_wp2
          go_ret
          exact ⟨rfl, rfl⟩
        | false =>
          have HK2 : Hid (lkOf l = 105) := by show _ = _; rw [HK.out, HP.out, h5, if_neg (by decide)]
          rw [HK2.out]
          clear HK HP HK2 hn
          go_enter Tryz.func46, Tryz.ntmps46
          go_wp2
          go_ret
          exact ⟨rfl, rfl⟩
      · have HK2 : Hid (lkOf l = 105) := by show _ = _; rw [HK.out, pre_short (by omega), if_neg (by decide)]
        rw [HK2.out]
        clear HK HK2 hn
        go_enter Tryz.func46, Tryz.ntmps46
        go_wp2
        go_ret
        exact ⟨rfl, rfl⟩
/-- a word's number, or -1 -/
def woOf (l : List UInt8) : Int := match pnum l with | some n => if 0 ≤ n ∧ n ≤ 4294967295 then n else -1 | none => -1
theorem wo_none {l : List UInt8} (h : rnum l = none) : woOf l = -1 := by
  unfold woOf
  cases hp : pnum l with
  | none => rfl
  | some n =>
    obtain ⟨e, hn⟩ := (pnum_iff l n).1 hp
    have : rnum l = some (n, []) := (rnum_iff l n []).2 ⟨by simpa using e, hn, fun c hc => by simp at hc⟩
    rw [h] at this; cases this
theorem wo_more {l r : List UInt8} {n : Int} (h : rnum l = some (n, r)) (hr : r ≠ []) : woOf l = -1 := by
  unfold woOf
  cases hp : pnum l with
  | none => rfl
  | some n' =>
    obtain ⟨e, hn⟩ := (pnum_iff l n').1 hp
    have : rnum l = some (n', []) := (rnum_iff l n' []).2 ⟨by simpa using e, hn, fun c hc => by simp at hc⟩
    rw [h] at this; injection this with this; injection this with _ h2; exact absurd h2 hr
theorem wo_some {l : List UInt8} {n : Int} (h : rnum l = some (n, [])) : woOf l = (if 0 ≤ n ∧ n ≤ 4294967295 then n else -1) ∧ n.natAbs < 10000000000 := by
  obtain ⟨e, hn, _⟩ := (rnum_iff l n []).1 h
  have hp : pnum l = some n := (pnum_iff l n).2 ⟨by simpa using e, hn⟩
  exact ⟨by unfold woOf; rw [hp], hn⟩
theorem rnumR {l r : List UInt8} {n : Int} (h : rnum l = some (n, r)) : n.natAbs < 10000000000 ∧ r.length ≤ l.length := by
  obtain ⟨e, hn, _⟩ := (rnum_iff l n r).1 h
  exact ⟨hn, by rw [e]; simp⟩
set_option maxRecDepth 100000 in
set_option maxHeartbeats 2000000 in
theorem wordOf_any (l : List UInt8) (hl : l.length ≤ 1000) (w : World) : Calls Tryz.prog 48 #[.string ⟨l.toArray⟩] w fun e w' => e = .returned (.int .i64 (woOf l)) ∧ w' = w := by
  have hl' : (l.length : Int) ≤ 1000 := by omega
  have hna := numAt_any l hl 0 (Nat.zero_le _) w
  unfold naV at hna
  rw [List.drop_zero] at hna
  cases hr : rnum l with
  | none =>
    rw [hr] at hna
    rw [wo_none hr]
    unfold bad at hna
    clear hr
    go_enter Tryz.func48, Tryz.ntmps48
    go_wp2_with (go_at_call 41; refine hna.mono ?_; rintro e w' ⟨rfl, rfl⟩)
    go_ret
    exact ⟨rfl, rfl⟩
  | some x =>
    obtain ⟨n, r⟩ := x
    rw [hr] at hna
    simp only at hna
    obtain ⟨hn, hrl⟩ := rnumR hr
    have hn0 : -10000000000 ≤ n := by omega
    have hn1 : n ≤ 10000000000 := by omega
    cases r with
    | cons c r =>
      rw [wo_more hr (by simp)]
      simp only [List.length_cons] at hna hrl
      have hrl' : (r.length : Int) + 1 ≤ l.length := by omega
      have hz : ((l.length : Int) - ((r.length + 1 : Nat) : Int)) = (l.length : Int) - 1 - r.length := by omega
      rw [hz] at hna
      have hne : (((l.length : Int) - 1 - r.length) != (l.length : Int)) = true := by simp; omega
      clear hr hn hrl hz
      go_enter Tryz.func48, Tryz.ntmps48
      go_wp2_with (go_at_call 41; refine hna.mono ?_; rintro e w' ⟨rfl, rfl⟩)
      go_ret
      exact ⟨rfl, rfl⟩
    | nil =>
      have HW : Hid (woOf l = if 0 ≤ n ∧ n ≤ 4294967295 then n else -1) := (wo_some hr).1
      rw [HW.out]
      have hz : ((l.length : Int) - (([] : List UInt8).length : Int)) = (l.length : Int) := by simp
      rw [hz] at hna
      clear hr hn hrl hz HW
      by_cases d0 : n < 0
      · rw [if_neg (by omega)]
        go_enter Tryz.func48, Tryz.ntmps48
        go_wp2_with (go_at_call 41; refine hna.mono ?_; rintro e w' ⟨rfl, rfl⟩)
        go_ret
        exact ⟨rfl, rfl⟩
      · by_cases d1 : 4294967296 ≤ n
        · rw [if_neg (by omega)]
          go_enter Tryz.func48, Tryz.ntmps48
          go_wp2_with (go_at_call 41; refine hna.mono ?_; rintro e w' ⟨rfl, rfl⟩)
          go_ret
          exact ⟨rfl, rfl⟩
        · rw [if_pos (by omega)]
          go_enter Tryz.func48, Tryz.ntmps48
          go_wp2_with (go_at_call 41; refine hna.mono ?_; rintro e w' ⟨rfl, rfl⟩)
          go_ret
          exact ⟨rfl, rfl⟩
end Go.Proofs.YtccnliihdhnckaaGreatDoor
