/-
  isName, for any text.
-/
import Derived.Test.YtccnliihdhnckaaGreatDoorName
namespace Go.Proofs.YtccnliihdhnckaaGreatDoor
open Go.RowKit Go.Shelf Go.Joins
open Num Tab Fm Txt
set_option linter.unusedVariables false
structure NInv (w wr : World) (l : List UInt8) (p : Nat) : Prop where
  it : wr.heap[w.heap.size]? = some (.stringIter ⟨l.toArray⟩ p)
  bel : Below w.heap.size w wr
theorem NInv.next {w wr : World} {l : List UInt8} {p : Nat} (E : NInv w wr l p) (j : Nat) : NInv w (wr.iterAt w.heap.size ⟨l.toArray⟩ j) l j :=
  ⟨Lib.iterAt_heap wr _ _ p _ E.it, Lib.below_iterAt E.bel (Nat.le_refl _) _ _⟩
theorem NInv.start (w : World) (l : List UInt8) : NInv w (w.iter ⟨l.toArray⟩ 0) l 0 :=
  ⟨World.iter_heap w _ 0, (Below.refl _ _).alloc (Nat.le_refl _) _⟩
theorem let_iff (c : UInt8) : decide (97 ≤ (c.toNat : Int) ∧ (c.toNat : Int) ≤ 122) = letB c := by
  unfold letB; rw [decide_eq_decide]; omega
theorem isNm_all {l : List UInt8} (hne : l ≠ []) (hl : l.length ≤ 12) (h0 : letB (l.headD 0) = true) : isNm l = l.all nmB := by
  unfold isNm; rw [h0, decide_eq_true ⟨hne, hl⟩]; rfl
theorem all_take {l : List UInt8} {p : Nat} (h : p < l.length) : (l.take (p + 1)).all nmB = ((l.take p).all nmB && nmB l[p]) := by
  rw [List.take_succ_eq_append_getElem h, List.all_append]; simp
set_option maxRecDepth 100000 in
set_option maxHeartbeats 1000000 in
theorem isName_any (l : List UInt8) (hl : l.length ≤ 1000) (w : World) : Calls Tryz.prog 102 #[.string ⟨l.toArray⟩] w fun e w' => e = .returned (.bool (isNm l)) ∧ Below w.heap.size w w' := by
  have hl' : (l.length : Int) ≤ 1000 := by omega
  cases hc : l with
  | nil =>
    go_enter Tryz.func102, Tryz.ntmps102
    go_wp2
    go_ret
    exact ⟨rfl, Below.refl _ _⟩
  | cons c t =>
    rw [← hc]
    have hne : l ≠ [] := by rw [hc]; simp
    have hnb : (l == []) = false := by rw [hc]; rfl
    have h0l : 0 < l.length := by rw [hc]; simp
    have h0l' : (0 : Int) < l.length := by omega
    have hh : l.headD 0 = l[0] := by subst hc; rfl
    have hi0 : ∀ h, (⟨l.toArray⟩ : ByteArray)[0]'h = l[0] := fun _ => rfl
    clear hc
    by_cases h12 : 12 < (l.length : Int)
    · have HF : Hid (isNm l = false) := by show isNm l = false; unfold isNm; rw [decide_eq_false (by omega)]; rfl
      rw [HF.out]
      go_enter Tryz.func102, Tryz.ntmps102
      go_wp2
      go_ret
      exact ⟨rfl, Below.refl _ _⟩
    · have hb1 : (l[0].toNat : Int) ≤ 255 := by have := l[0].toNat_lt; omega
      have hb0 : (0 : Int) ≤ l[0].toNat := by omega
      have hil := isLetter_any (l[0].toNat : Int)
      rw [let_iff] at hil
      cases hle : letB l[0] with
      | false =>
        rw [hle] at hil
        have HF : Hid (isNm l = false) := by show isNm l = false; unfold isNm; rw [hh, hle]; simp
        rw [HF.out]
        go_enter Tryz.func102, Tryz.ntmps102
        go_wp2_with (go_at_call 124; refine (hil _).mono ?_; rintro e w' ⟨rfl, rfl⟩)
        go_ret
        exact ⟨rfl, Below.refl _ _⟩
      | true =>
        rw [hle] at hil
        have HF : Hid (isNm l = l.all nmB) := isNm_all hne (by omega) (by rw [hh]; exact hle)
        rw [HF.out]
        go_enter Tryz.func102, Tryz.ntmps102
        go_wp2_with (go_at_call 124; refine (hil _).mono ?_; rintro e w' ⟨rfl, rfl⟩)
        clear hil hle hh hi0 hb0 hb1
        go_loopw [2] (fun a wr => ∃ p : Nat, p ≤ l.length ∧ a = .bool false ∧ Hid ((l.take p).all nmB = true) ∧ NInv w' wr l p) (fun _ wr => l.length - wr.iterPos w'.heap.size)
        case atStart => exact ⟨0, Nat.zero_le _, rfl, rfl, NInv.start _ _⟩
        case round =>
          obtain ⟨p, hp, rfl, HA, E⟩ := hrel
          by_cases hpl : p < l.length
          · have hat := all_take hpl
            by_cases hc128 : l[p].toNat < 128
            · have hnx := fun ty => dec_at l p hpl _ rfl hc128 wr w'.heap.size E.it ty
              have hil := isLetter_any (l[p].toNat : Int)
              rw [let_iff] at hil
              have hnm : nmB l[p] = (letB l[p] || decide (48 ≤ l[p].toNat ∧ l[p].toNat ≤ 57)) := rfl
              have E2 := E.next (p + 1)
              have hpos := iterPos_of E2.it
              generalize l[p] = c at hc128 hnx hil hnm hat
              generalize wr.iterAt w'.heap.size ⟨l.toArray⟩ (p + 1) = wr2 at hnx E2 hpos
              cases hle : letB c with
              | true =>
                rw [hle] at hil hnm
                have HN : Hid ((l.take (p + 1)).all nmB = true) := by show _ = true; rw [hat, HA.out, hnm]; rfl
                clear hat hnm
                go_wp2_with (go_at_call 124; refine (hil _).mono ?_; rintro e w2 ⟨rfl, rfl⟩)
                go_roundw
                case rel => exact ⟨p + 1, by omega, rfl, HN.out, E2⟩
                case measure => rw [hpos, iterPos_of E.it]; omega
              | false =>
                rw [hle] at hil hnm
                by_cases d1 : (c.toNat : Int) < 48
                · have HN : Hid (l.all nmB = false) := by
                    show _ = false
                    rw [← List.take_append_drop (p + 1) l, List.all_append, hat, hnm, decide_eq_false (by omega)]; simp
                  clear hat hnm
                  go_wp2_with (go_at_call 124; refine (hil _).mono ?_; rintro e w2 ⟨rfl, rfl⟩)
                  go_ret
                  exact ⟨by rw [HN.out]; rfl, E2.bel⟩
                · by_cases d2 : 57 < (c.toNat : Int)
                  · have HN : Hid (l.all nmB = false) := by
                      show _ = false
                      rw [← List.take_append_drop (p + 1) l, List.all_append, hat, hnm, decide_eq_false (by omega)]; simp
                    clear hat hnm
                    go_wp2_with (go_at_call 124; refine (hil _).mono ?_; rintro e w2 ⟨rfl, rfl⟩)
                    go_ret
                    exact ⟨by rw [HN.out]; rfl, E2.bel⟩
                  · have HN : Hid ((l.take (p + 1)).all nmB = true) := by show _ = true; rw [hat, HA.out, hnm, decide_eq_true (by omega)]; rfl
                    clear hat hnm
                    go_wp2_with (go_at_call 124; refine (hil _).mono ?_; rintro e w2 ⟨rfl, rfl⟩)
                    go_roundw
                    case rel => exact ⟨p + 1, by omega, rfl, HN.out, E2⟩
                    case measure => rw [hpos, iterPos_of E.it]; omega
            · have hs : p < (ByteArray.mk l.toArray).size := by simpa [ByteArray.size] using hpl
              have hnx := fun ty => Lib.run_next_any_at (P := Tryz.prog) wr w'.heap.size _ p ty E.it hs
              have hdec := Lib.decode_at ⟨l.toArray⟩ p
              have hg : ((⟨l.toArray⟩ : ByteArray).get! p).toNat = l[p].toNat := by simp [ByteArray.get!, hpl]
              have hlt : l[p].toNat < 256 := l[p].toNat_lt
              have hhi : 128 ≤ (Utf8.decode ⟨l.toArray⟩ p).1 ∧ (Utf8.decode ⟨l.toArray⟩ p).1 < 2147483648 := by
                rw [hdec]; exact decodeN_hi _ _ _ _ _ (by rw [hg]; omega) (by rw [hg]; omega)
              have hnf : nmB l[p] = false := by
                unfold nmB letB isDig; simp; omega
              have HN : Hid (l.all nmB = false) := by
                show _ = false
                rw [← List.take_append_drop (p + 1) l, List.all_append, hat, hnf]; simp
              have E2 := E.next (p + (Utf8.decode ⟨l.toArray⟩ p).2)
              have hil := isLetter_any ((Utf8.decode ⟨l.toArray⟩ p).1 : Int)
              rw [decide_eq_false (by omega)] at hil
              clear hat hnf hdec hg
              generalize (Utf8.decode ⟨l.toArray⟩ p).1 = r at *
              generalize wr.iterAt w'.heap.size ⟨l.toArray⟩ (p + (Utf8.decode ⟨l.toArray⟩ p).2) = wr2 at hnx E2
              have d1 : ¬ (r : Int) < 48 := by omega
              have d2 : (57 : Int) < r := by omega
              go_wp2_with (go_at_call 124; refine (hil _).mono ?_; rintro e w2 ⟨rfl, rfl⟩)
              go_ret
              exact ⟨by rw [HN.out]; rfl, E2.bel⟩
          · obtain rfl : p = l.length := by omega
            have hs : ¬ l.length < (ByteArray.mk l.toArray).size := by simp [ByteArray.size]
            have hnx := fun ty => Lib.run_next_end_at (P := Tryz.prog) wr _ _ _ ty E.it hs
            have hbel := E.bel
            have HN : Hid (l.all nmB = true) := by have := HA.out; rwa [List.take_length] at this
            clear HA
            go_wp2
            go_ret
            exact ⟨by rw [HN.out]; rfl, hbel⟩
end Go.Proofs.YtccnliihdhnckaaGreatDoor
