/-
  NumberAt at another sign.
-/
import Derived.Test.YtccnliihdhnckaaGreatDoorKName
namespace Go.Proofs.YtccnliihdhnckaaGreatDoor
open Go.RowKit Go.Shelf Go.Joins
open Num Tab Fm Txt
set_option linter.unusedVariables false
set_option maxRecDepth 100000 in
set_option maxHeartbeats 8000000 in
theorem numAtPos (l : List UInt8) (hl : l.length ≤ 1000) (a : Nat) (ha : a < l.length) (h45 : ¬ l[a] = 45) (w : World) :
    Calls Tryz.prog 41 #[.string ⟨l.toArray⟩, .int .i64 a] w fun e w' => e = .returned (naV l a) ∧ w' = w := by
  have hl' : (l.length : Int) ≤ 1000 := by omega
  have a0 : (0 : Int) ≤ a := by omega
  have HN : Hid (naV l a = naW l a false) := naV_plain l a (by omega) (by rw [List.drop_eq_getElem_cons ha]; intro h; rw [List.head?_cons] at h; injection h with h; exact h45 h)
  have hal : (a : Int) < l.length := by omega
  have hia : ∀ h, (⟨l.toArray⟩ : ByteArray)[a]'h = l[a] := fun _ => rfl
  have e45 : ((l[a].toNat : Int) == 45) = false := by
    have : ¬ l[a].toNat = 45 := fun e => h45 (UInt8.toNat_inj.mp e)
    simp; omega
  have hfl : a ≤ l.length := by omega
  have hfl' : (a : Int) ≤ 1000 := by omega
  go_enter Tryz.func41, Tryz.ntmps41
  go_wp2
  go_loop [7, 9] (fun x y => ∃ q i : Nat, Hid (q = a + i) ∧ i ≤ (digsAt l a).length ∧ i ≤ 11 ∧ q ≤ l.length ∧ x = .int .i64 (q : Int) ∧ y = .int .i64 (val ((digsAt l a).take i) : Int)) (fun x _ => 2000 - (intOf x).toNat)
  case atStart => exact ⟨a, 0, rfl, Nat.zero_le _, by omega, hfl, rfl, rfl⟩
  case round =>
    obtain ⟨q, i, HQ, hi, hi11, hql, rfl, rfl⟩ := hrel
    have hqf : (q : Int) - a = i := by have := HQ.out; omega
    have HI : Hid ((q : Int) - a = i) := hqf
    have q0 : (a : Int) ≤ q := by omega
    have q1 : (q : Int) ≤ l.length := by omega
    have HVB : Hid (val ((digsAt l a).take i) < 100000000000) := by
      have h1 := val_lt ((digsAt l a).take i) (fun c hc => mem_take isDig (l.drop a) c (List.mem_of_mem_take hc))
      have h2 : ((digsAt l a).take i).length ≤ 11 := by rw [List.length_take]; omega
      have h3 : 10 ^ ((digsAt l a).take i).length ≤ 10 ^ 11 := Nat.pow_le_pow_right (by omega) h2
      show val _ < _
      omega
    have HEND : Hid (i = (digsAt l a).length → val ((digsAt l a).take i) = val (digsAt l a)) := by intro h; rw [h, List.take_length]
    obtain ⟨n, hn⟩ : ∃ n, n = val ((digsAt l a).take i) := ⟨_, rfl⟩
    have HNV : Hid (n = val ((digsAt l a).take i)) := hn
    rw [← hn]
    have n1 : (n : Int) < 100000000000 := by have := HVB.out; omega
    have n0 : (0 : Int) ≤ n := by omega
    clear hn hqf
    by_cases hq : q < l.length
    · have hq' : (q : Int) < l.length := by omega
      have hiq : ∀ h, (⟨l.toArray⟩ : ByteArray)[q]'h = l[q] := fun _ => rfl
      by_cases h1 : 48 ≤ l[q].toNat
      · have h1' : 48 ≤ (l[q].toNat : Int) := by omega
        by_cases h2 : l[q].toNat ≤ 57
        · have h2' : (l[q].toNat : Int) ≤ 57 := by omega
          have HD : Hid (isDig l[q] = true) := by show isDig _ = _; unfold isDig; rw [decide_eq_true_eq]; exact ⟨h1, h2⟩
          by_cases hi2 : i ≤ 10
          · have hc : (q : Int) - a ≤ 10 := by have := HI.out; omega
            have HM : Hid (i + 1 ≤ (digsAt l a).length ∧ val ((digsAt l a).take (i + 1)) = n * 10 + (l[q].toNat - 48)) := by
              have := HQ.out; subst this
              obtain ⟨m1, m2⟩ := digs_more l a i hi hq HD.out
              refine ⟨m1, ?_⟩
              rw [val_take _ _ m1, m2 m1, ← HNV.out]
            go_wp2
            go_round
            case rel => exact ⟨q + 1, i + 1, by show q + 1 = a + (i + 1); rw [HQ.out]; rfl, HM.out.1, by omega, by omega, by go_num, by rw [HM.out.2]; go_num⟩
            case measure => simp [intOf]; omega
          · have hc : ¬ (q : Int) - a ≤ 10 := by have := HI.out; omega
            have hc2 : 10 < (q : Int) - a := by have := HI.out; omega
            have hb : ((q : Int) == a) = false := by simp; omega
            have HB : Hid (naV l a = bad) := by
              show naV l a = bad
              rw [HN.out, naW, if_pos (Or.inr (Or.inl (by omega)))]
            go_wp2
            go_ret2
            exact ⟨by rw [HB.out]; rfl, rfl⟩
        · have h2' : ¬ (l[q].toNat : Int) ≤ 57 := by omega
          have HD : Hid (isDig l[q] = false) := by show isDig _ = _; unfold isDig; rw [decide_eq_false_iff_not]; omega
          have HV : Hid (i = (digsAt l a).length) := digs_end l a i hi (Or.inr (by have := HQ.out; subst this; exact ⟨hq, HD.out⟩))
          have HNX : Hid (n = val (digsAt l a)) := by show n = _; rw [HNV.out, HEND.out HV.out]
          by_cases hi0 : i = 0
          · have hb : ((q : Int) == a) = true := by have := HQ.out; simp; omega
            have HB : Hid (naV l a = bad) := by
              show naV l a = bad
              rw [HN.out, naW, if_pos (Or.inl (List.eq_nil_of_length_eq_zero (by rw [← HV.out]; exact hi0)))]
            clear hi0
            go_wp2
            go_ret2
            exact ⟨by rw [HB.out]; rfl, rfl⟩
          · have hb : ((q : Int) == a) = false := by have := HQ.out; simp; omega
            have hfl2 : a < l.length := by have := HQ.out; omega
            have hif : ∀ h, (⟨l.toArray⟩ : ByteArray)[a]'h = l[a] := fun _ => rfl
            have hff : (a : Int) < l.length := by omega
            have f0 : (0 : Int) ≤ a := by omega
            by_cases hi10 : 10 < i
            · have hc : 10 < (q : Int) - a := by have := HI.out; omega
              have HB : Hid (naV l a = bad) := by
                show naV l a = bad
                rw [HN.out, naW, if_pos (Or.inr (Or.inl (by rw [← HV.out]; exact hi10)))]
              go_wp2
              go_ret2
              exact ⟨by rw [HB.out]; rfl, rfl⟩
            · have hc : ¬ 10 < (q : Int) - a := by have := HI.out; omega
              have HHD : Hid ((digsAt l a).head? = some l[a]) := digs_head l a hfl2 (by rw [← HV.out]; omega)
              have HNE : Hid (¬ digsAt l a = []) := by intro e; have := HV.out; rw [e] at this; exact hi0 this
              clear hi0
              by_cases h48 : l[a] = 48
              · have e48 : ((l[a].toNat : Int) == 48) = true := by rw [h48]; decide
                have H48 : Hid (l[a] = 48) := h48
                clear h48
                by_cases hi1 : 1 < i
                · have hd : 1 < (q : Int) - a := by have := HI.out; omega
                  have HB : Hid (naV l a = bad) := by
                    show naV l a = bad
                    rw [HN.out, naW, if_pos (Or.inr (Or.inr ⟨by rw [HHD.out, H48.out], Or.inl (by rw [← HV.out]; exact hi1)⟩))]
                  go_wp2
                  go_ret2
                  exact ⟨by rw [HB.out]; rfl, rfl⟩
                · have hd : ¬ 1 < (q : Int) - a := by have := HI.out; omega
                  have HB : Hid (naV l a = .tuple #[.int .i64 n, .int .i64 q]) := by
                    show naV l a = _
                    rw [HN.out, naW, if_neg, HNX.out, HQ.out, HV.out]
                    · rfl
                    · rintro (h | h | h)
                      · exact HNE.out h
                      · rw [← HV.out] at h; exact hi10 h
                      · rcases h.2 with h | h
                        · rw [← HV.out] at h; exact hi1 h
                        · cases h
                  go_wp2
                  go_ret2
                  exact ⟨by rw [HB.out]; rfl, rfl⟩
              · have e48 : ((l[a].toNat : Int) == 48) = false := by
                  have : ¬ l[a].toNat = 48 := fun e => h48 (UInt8.toNat_inj.mp e)
                  simp; omega
                have HB : Hid (naV l a = .tuple #[.int .i64 ((n : Int)), .int .i64 q]) := by
                  show naV l a = _
                  rw [HN.out, naW, if_neg, HNX.out, HQ.out, HV.out]
                  · rfl
                  · rintro (h | h | h)
                    · exact HNE.out h
                    · rw [← HV.out] at h; exact hi10 h
                    · rw [HHD.out] at h
                      injection h.1 with h
                      exact h48 h
                clear h48
                go_wp2
                go_ret2
                exact ⟨by rw [HB.out]; rfl, rfl⟩
      · have h1' : ¬ 48 ≤ (l[q].toNat : Int) := by omega
        have HD : Hid (isDig l[q] = false) := by show isDig _ = _; unfold isDig; rw [decide_eq_false_iff_not]; omega
        have HV : Hid (i = (digsAt l a).length) := digs_end l a i hi (Or.inr (by have := HQ.out; subst this; exact ⟨hq, HD.out⟩))
        have HNX : Hid (n = val (digsAt l a)) := by show n = _; rw [HNV.out, HEND.out HV.out]
        by_cases hi0 : i = 0
        · have hb : ((q : Int) == a) = true := by have := HQ.out; simp; omega
          have HB : Hid (naV l a = bad) := by
            show naV l a = bad
            rw [HN.out, naW, if_pos (Or.inl (List.eq_nil_of_length_eq_zero (by rw [← HV.out]; exact hi0)))]
          clear hi0
          go_wp2
          go_ret2
          exact ⟨by rw [HB.out]; rfl, rfl⟩
        · have hb : ((q : Int) == a) = false := by have := HQ.out; simp; omega
          have hfl2 : a < l.length := by have := HQ.out; omega
          have hif : ∀ h, (⟨l.toArray⟩ : ByteArray)[a]'h = l[a] := fun _ => rfl
          have hff : (a : Int) < l.length := by omega
          have f0 : (0 : Int) ≤ a := by omega
          by_cases hi10 : 10 < i
          · have hc : 10 < (q : Int) - a := by have := HI.out; omega
            have HB : Hid (naV l a = bad) := by
              show naV l a = bad
              rw [HN.out, naW, if_pos (Or.inr (Or.inl (by rw [← HV.out]; exact hi10)))]
            go_wp2
            go_ret2
            exact ⟨by rw [HB.out]; rfl, rfl⟩
          · have hc : ¬ 10 < (q : Int) - a := by have := HI.out; omega
            have HHD : Hid ((digsAt l a).head? = some l[a]) := digs_head l a hfl2 (by rw [← HV.out]; omega)
            have HNE : Hid (¬ digsAt l a = []) := by intro e; have := HV.out; rw [e] at this; exact hi0 this
            clear hi0
            by_cases h48 : l[a] = 48
            · have e48 : ((l[a].toNat : Int) == 48) = true := by rw [h48]; decide
              have H48 : Hid (l[a] = 48) := h48
              clear h48
              by_cases hi1 : 1 < i
              · have hd : 1 < (q : Int) - a := by have := HI.out; omega
                have HB : Hid (naV l a = bad) := by
                  show naV l a = bad
                  rw [HN.out, naW, if_pos (Or.inr (Or.inr ⟨by rw [HHD.out, H48.out], Or.inl (by rw [← HV.out]; exact hi1)⟩))]
                go_wp2
                go_ret2
                exact ⟨by rw [HB.out]; rfl, rfl⟩
              · have hd : ¬ 1 < (q : Int) - a := by have := HI.out; omega
                have HB : Hid (naV l a = .tuple #[.int .i64 n, .int .i64 q]) := by
                  show naV l a = _
                  rw [HN.out, naW, if_neg, HNX.out, HQ.out, HV.out]
                  · rfl
                  · rintro (h | h | h)
                    · exact HNE.out h
                    · rw [← HV.out] at h; exact hi10 h
                    · rcases h.2 with h | h
                      · rw [← HV.out] at h; exact hi1 h
                      · cases h
                go_wp2
                go_ret2
                exact ⟨by rw [HB.out]; rfl, rfl⟩
            · have e48 : ((l[a].toNat : Int) == 48) = false := by
                have : ¬ l[a].toNat = 48 := fun e => h48 (UInt8.toNat_inj.mp e)
                simp; omega
              have HB : Hid (naV l a = .tuple #[.int .i64 ((n : Int)), .int .i64 q]) := by
                show naV l a = _
                rw [HN.out, naW, if_neg, HNX.out, HQ.out, HV.out]
                · rfl
                · rintro (h | h | h)
                  · exact HNE.out h
                  · rw [← HV.out] at h; exact hi10 h
                  · rw [HHD.out] at h
                    injection h.1 with h
                    exact h48 h
              clear h48
              go_wp2
              go_ret2
              exact ⟨by rw [HB.out]; rfl, rfl⟩
    · have hq' : ¬ (q : Int) < l.length := by omega
      have HV : Hid (i = (digsAt l a).length) := digs_end l a i hi (Or.inl (by have := HQ.out; omega))
      have HNX : Hid (n = val (digsAt l a)) := by show n = _; rw [HNV.out, HEND.out HV.out]
      by_cases hi0 : i = 0
      · have hb : ((q : Int) == a) = true := by have := HQ.out; simp; omega
        have HB : Hid (naV l a = bad) := by
          show naV l a = bad
          rw [HN.out, naW, if_pos (Or.inl (List.eq_nil_of_length_eq_zero (by rw [← HV.out]; exact hi0)))]
        clear hi0
        go_wp2
        go_ret2
        exact ⟨by rw [HB.out]; rfl, rfl⟩
      · have hb : ((q : Int) == a) = false := by have := HQ.out; simp; omega
        have hfl2 : a < l.length := by have := HQ.out; omega
        have hif : ∀ h, (⟨l.toArray⟩ : ByteArray)[a]'h = l[a] := fun _ => rfl
        have hff : (a : Int) < l.length := by omega
        have f0 : (0 : Int) ≤ a := by omega
        by_cases hi10 : 10 < i
        · have hc : 10 < (q : Int) - a := by have := HI.out; omega
          have HB : Hid (naV l a = bad) := by
            show naV l a = bad
            rw [HN.out, naW, if_pos (Or.inr (Or.inl (by rw [← HV.out]; exact hi10)))]
          go_wp2
          go_ret2
          exact ⟨by rw [HB.out]; rfl, rfl⟩
        · have hc : ¬ 10 < (q : Int) - a := by have := HI.out; omega
          have HHD : Hid ((digsAt l a).head? = some l[a]) := digs_head l a hfl2 (by rw [← HV.out]; omega)
          have HNE : Hid (¬ digsAt l a = []) := by intro e; have := HV.out; rw [e] at this; exact hi0 this
          clear hi0
          by_cases h48 : l[a] = 48
          · have e48 : ((l[a].toNat : Int) == 48) = true := by rw [h48]; decide
            have H48 : Hid (l[a] = 48) := h48
            clear h48
            by_cases hi1 : 1 < i
            · have hd : 1 < (q : Int) - a := by have := HI.out; omega
              have HB : Hid (naV l a = bad) := by
                show naV l a = bad
                rw [HN.out, naW, if_pos (Or.inr (Or.inr ⟨by rw [HHD.out, H48.out], Or.inl (by rw [← HV.out]; exact hi1)⟩))]
              go_wp2
              go_ret2
              exact ⟨by rw [HB.out]; rfl, rfl⟩
            · have hd : ¬ 1 < (q : Int) - a := by have := HI.out; omega
              have HB : Hid (naV l a = .tuple #[.int .i64 n, .int .i64 q]) := by
                show naV l a = _
                rw [HN.out, naW, if_neg, HNX.out, HQ.out, HV.out]
                · rfl
                · rintro (h | h | h)
                  · exact HNE.out h
                  · rw [← HV.out] at h; exact hi10 h
                  · rcases h.2 with h | h
                    · rw [← HV.out] at h; exact hi1 h
                    · cases h
              go_wp2
              go_ret2
              exact ⟨by rw [HB.out]; rfl, rfl⟩
          · have e48 : ((l[a].toNat : Int) == 48) = false := by
              have : ¬ l[a].toNat = 48 := fun e => h48 (UInt8.toNat_inj.mp e)
              simp; omega
            have HB : Hid (naV l a = .tuple #[.int .i64 ((n : Int)), .int .i64 q]) := by
              show naV l a = _
              rw [HN.out, naW, if_neg, HNX.out, HQ.out, HV.out]
              · rfl
              · rintro (h | h | h)
                · exact HNE.out h
                · rw [← HV.out] at h; exact hi10 h
                · rw [HHD.out] at h
                  injection h.1 with h
                  exact h48 h
            clear h48
            go_wp2
            go_ret2
            exact ⟨by rw [HB.out]; rfl, rfl⟩
end Go.Proofs.YtccnliihdhnckaaGreatDoor
