/-
  The document's answer: where a branch's label begins.
-/
import Derived.Deep.Cut
import Derived.Deep.RegionWith
import Derived.Test.YtccnliihdhnckaaGreatDoorQDA1
import Derived.Test.YtccnliihdhnckaaGreatDoorKPOa
namespace Go.Proofs.YtccnliihdhnckaaGreatDoor
open Go.RowKit Go.Shelf Go.Joins
open Num Tab Fm Txt
set_option linter.unusedVariables false
/-- a branch that has an offset or a target -/
def bjB (k : Nat) : Bool := (kindR k == [98, 114, 97, 110, 99, 104]) && (hasB (flds k) 105 || hasB (flds k) 106)
def namB (k0 p : Nat) : Bool := decide (k0 < p) && bjB k0
def atUp (l : List UInt8) (k : Nat) : Nat → Nat
  | 0 => k + 1
  | m + 1 => if (l.drop (k + 1 + m)).take 2 = [44, 32] then k + 1 + m + 2 else atUp l k m
def wl (l : List UInt8) : Nat := (l.takeWhile isWord).length
def laAt (l : List UInt8) : Nat := atUp l (wl l) (l.length - (wl l + 2))
def labOf (l : List UInt8) : Int := if wl l = l.length then -1 else if bjB (opOf (l.takeWhile isWord)) && isNm (l.drop (laAt l)) then (laAt l : Int) else -1
theorem bj_0 : bjB 0 = false := by decide
theorem fl_len : ∀ k, k < 54 → (flds k).length ≤ 10 := by decide
theorem nam_one (k0 : Nat) (h : k0 < 54) : namB k0 1 = false := by
  unfold namB
  by_cases h1 : k0 < 1
  · have : k0 = 0 := by omega
    subst this; rw [bj_0]; simp
  · rw [decide_eq_false h1]; rfl
theorem nam_hit (p : Nat) : namB p (p + 1) = bjB p := by unfold namB; rw [decide_eq_true (by omega)]; rfl
theorem nam_no (p : Nat) : namB p p = false := by unfold namB; rw [decide_eq_false (by omega)]; rfl
theorem nam_miss {k0 p : Nat} (h : ¬ k0 = p) : namB k0 (p + 1) = namB k0 p := by
  unfold namB
  by_cases g : k0 < p
  · rw [decide_eq_true g, decide_eq_true (by omega)]
  · rw [decide_eq_false g, decide_eq_false (by omega)]
theorem nam_end {k0 : Nat} (h : k0 < 54) : namB k0 54 = bjB k0 := by unfold namB; rw [decide_eq_true h]; rfl
theorem atUp_le (l : List UInt8) (k : Nat) (hk : k < l.length) : ∀ m, m ≤ l.length - (k + 2) → k + 1 ≤ atUp l k m ∧ atUp l k m ≤ l.length
  | 0, _ => ⟨Nat.le_refl _, hk⟩
  | m + 1, h => by
    unfold atUp
    split
    · omega
    · exact atUp_le l k hk m (by omega)
structure LI (w wr : World) (b : Nat) : Prop where
  bel : Below w.heap.size w wr
  tab : TabAt b wr
  lt : b < wr.heap.size
theorem LI.drewN {w wr : World} {b : Nat} (h : LI w wr b) (n : Nat) : LI w (wr.drewN n) b :=
  ⟨h.bel.trans ⟨rfl, rfl, rfl, Nat.le_refl _, fun _ _ => rfl⟩, h.tab.stays ⟨rfl, rfl, rfl, Nat.le_refl _, fun _ _ => rfl⟩, h.lt⟩
theorem LI.drew {w wr : World} {b : Nat} (h : LI w wr b) : LI w wr.drew b :=
  ⟨h.bel.trans ⟨rfl, rfl, rfl, Nat.le_refl _, fun _ _ => rfl⟩, h.tab.stays ⟨rfl, rfl, rfl, Nat.le_refl _, fun _ _ => rfl⟩, h.lt⟩
set_option maxRecDepth 100000 in
set_option maxHeartbeats 20000000 in
theorem labelOf_any (l : List UInt8) (hl : l.length ≤ 1000) (w : World) : Calls Tryz.prog 49 #[.string ⟨l.toArray⟩] w fun e w' => e = .returned (.int .i64 (labOf l)) ∧ Below w.heap.size w w' := by
  have hl' : (l.length : Int) ≤ 1000 := by omega
  go_enter Tryz.func49, Tryz.ntmps49
  go_upto_block 0 with fail
  go_cut [3] from 10 to 21 (fun x wx => x = .int .i64 ((l.takeWhile isWord).length : Int) ∧ wx = w)
  case first =>
    as_aux_lemma =>
    go_wp2_with fail
    go_loop [3] (fun x => ∃ q : Nat, q ≤ (l.takeWhile isWord).length ∧ x = .int .i64 q) (fun x => 2000 - (intOf x).toNat)
    case atStart => exact ⟨0, Nat.zero_le _, rfl⟩
    case round =>
      as_aux_lemma =>
      obtain ⟨q, hq, rfl⟩ := hrel
      have hp : (l.takeWhile isWord).length ≤ l.length := (List.takeWhile_prefix isWord).length_le
      have q0 : (0 : Int) ≤ q := by omega
      rcases Nat.lt_or_ge q l.length with hq1 | hq1
      · have hlt' : (q : Int) < l.length := by omega
        have hiq : ∀ h, (⟨l.toArray⟩ : ByteArray)[q]'h = l[q] := fun _ => rfl
        cases hw : isWord l[q] with
        | true =>
          have e32 : ((l[q].toNat : Int) != 32) = true := by
            have : ¬ l[q].toNat = 32 := fun e => by
              have e2 : l[q] = 32 := UInt8.toNat_inj.mp e
              rw [e2] at hw; exact absurd hw (by decide)
            simp; omega
          have HM : Hid (q + 1 ≤ (l.takeWhile isWord).length) := word_more l q hq hq1 hw
          clear hw
          go_wp2
          go_round
          case rel => exact ⟨q + 1, HM.out, by go_num⟩
          case measure => simp [intOf]; omega
        | false =>
          have HQ : Hid (q = (l.takeWhile isWord).length) := word_end l q hq (Or.inr ⟨hq1, hw⟩)
          have e32 : ((l[q].toNat : Int) != 32) = false := by
            have : l[q] = 32 := by unfold isWord at hw; simpa using hw
            rw [this]; decide
          clear hw
          go_wp2
          go_meet
          exact ⟨by rw [← HQ.out], rfl⟩
      · have hlt' : ¬ (q : Int) < l.length := by omega
        have HQ : Hid (q = (l.takeWhile isWord).length) := word_end l q hq (Or.inl (by omega))
        go_wp2
        go_meet
        exact ⟨by rw [← HQ.out], rfl⟩
  case rest =>
    as_aux_lemma =>
    obtain ⟨rfl, rfl⟩ := hcut
    rename World => wA
    have hk := opOf_lt (l.takeWhile isWord)
    have HK : Hid (IsNm (l.takeWhile isWord) (opOf (l.takeWhile isWord))) := opOf_is _
    have HV : Hid (labOf l = if wl l = l.length then -1 else if bjB (opOf (l.takeWhile isWord)) && isNm (l.drop (laAt l)) then (laAt l : Int) else -1) := rfl
    have HA : Hid (laAt l = atUp l (wl l) (l.length - (wl l + 2))) := rfl
    have hext : (⟨l.toArray⟩ : ByteArray).extract 0 (l.takeWhile isWord).length = ⟨(l.takeWhile isWord).toArray⟩ := by
      rw [ext_take]
      have e : l.takeWhile isWord ++ l.dropWhile isWord = l := List.takeWhile_append_dropWhile
      have : l.take (l.takeWhile isWord).length = l.takeWhile isWord := by
        calc l.take (l.takeWhile isWord).length = (l.takeWhile isWord ++ l.dropWhile isWord).take (l.takeWhile isWord).length := by rw [e]
          _ = l.takeWhile isWord := List.take_left' rfl
      rw [this]
    have hnl : (l.takeWhile isWord).length ≤ l.length := (List.takeWhile_prefix isWord).length_le
    have hW : wl l = (l.takeWhile isWord).length := rfl
    generalize hLO : labOf l = LO at HV
    have HLO : Hid (labOf l = LO) := hLO
    clear hLO
    generalize laAt l = A at HV HA
    generalize opOf (l.takeWhile isWord) = k0 at *
    rw [hW] at HV HA
    generalize l.takeWhile isWord = nm at *
    clear hW
    have hnl' : (nm.length : Int) ≤ l.length := by omega
    by_cases he : (nm.length : Int) = l.length
    · have HR : Hid (LO = -1) := by show LO = -1; rw [HV.out, if_pos (by omega)]
      have heb : ((nm.length : Int) == (l.length : Int)) = true := by simpa using he
      clear he HV HA HK
      go_wp2
      go_ret
      exact ⟨ret_int (by rw [HLO.out, HR.out]), Below.refl _ _⟩
    · have heb : ((nm.length : Int) == (l.length : Int)) = false := by simpa using he
      have hlt : nm.length < l.length := by omega
      have hlt' : (nm.length : Int) < l.length := by omega
      have HV2 : Hid (LO = if bjB k0 && isNm (l.drop A) then (A : Int) else -1) := by show LO = if bjB k0 && isNm (l.drop A) then (A : Int) else -1; rw [HV.out, if_neg (by omega)]
      have HAL := atUp_le l nm.length hlt (l.length - (nm.length + 2)) (Nat.le_refl _)
      rw [← HA.out] at HAL
      have HALH : Hid (nm.length + 1 ≤ A ∧ A ≤ l.length) := HAL
      clear he HV HAL
      go_wp2_with fail
      refine (rows_any' _).mono ?_
      rintro e w2 ⟨rfl, hb2, ht2⟩
      have hz2 : wA.heap.size < w2.heap.size := cell_lt (ht2 0 (by omega)).c0
      have I2 : LI wA w2 wA.heap.size := ⟨hb2, ht2, hz2⟩
      generalize hgb : wA.heap.size = tb at *
      have HGB : Hid (wA.heap.size = tb) := hgb
      clear hb2 ht2 hz2 hgb
      go_upto_block 2 with fail
      go_cut [5] from 27 to 65 (fun x wx => x = .bool (bjB k0) ∧ LI wA wx tb)
      case first =>
        as_aux_lemma =>
        go_wp2_with fail
        go_loopw [5, 6] (fun x a wr => ∃ p : Nat, 1 ≤ p ∧ p ≤ 54 ∧ a = .int .i64 p ∧ x = .bool (namB k0 p) ∧ LI wA wr tb) (fun x a _ => 54 - (intOf a).toNat)
        case atStart => exact ⟨1, by omega, by omega, rfl, by rw [nam_one k0 hk], I2⟩
        case round =>
          as_aux_lemma =>
          clear I2
          obtain ⟨p, hp1, hp2, rfl, rfl, I⟩ := hrel
          have p0 : (0 : Int) ≤ p := by omega
          by_cases hlt3 : p < 54
          · have hlt3' : (p : Int) < 54 := by omega
            have r := I.tab p hlt3
            have c0 := r.c0
            have c3 := r.c3
            have c5 := r.c5
            have IH : Hid (LI wA wr tb) := I
            clear I r
            have hfl := fl_len p hlt3
            by_cases hn : nme p = nm
            · have HKP : Hid (k0 = p) := isNm_one HK.out (Or.inl ⟨hp1, hlt3, hn⟩)
              have hb : (nm == nm) = true := by simp
              rw [hn] at c0
              have HB : Hid (bjB p = ((kindR p == [98, 114, 97, 110, 99, 104]) && (hasB (flds p) 105 || hasB (flds p) 106))) := rfl
              clear hn
              generalize flds p = fl at *
              generalize kindR p = kd at *
              have HG : Hid (namB k0 p = false ∧ namB k0 (p + 1) = bjB p) := by show _ ∧ _; rw [HKP.out]; exact ⟨nam_no p, nam_hit p⟩
              rw [HG.out.1]
              cases hkd : kd == [98, 114, 97, 110, 99, 104] with
              | false =>
                have HG2 : Hid (namB k0 (p + 1) = false) := by show _ = _; rw [HG.out.2, HB.out, hkd]; rfl
                clear HB HG HKP
                go_wp2_with fail
                go_quiet (fail)
                go_wp2
                go_roundw
                case rel => exact ⟨p + 1, by omega, by omega, by go_num, by rw [HG2.out], IH.out.drewN _⟩
                case measure => simp [intOf]; omega
              | true =>
                cases h1 : hasB fl 105 with
                | true =>
                  have HG2 : Hid (namB k0 (p + 1) = true) := by show _ = _; rw [HG.out.2, HB.out, hkd, h1]; rfl
                  clear HB HG HKP
                  go_wp2_with fail
                  go_quiet ((go_at_call 32; exact Calls.quiet_of_same (isOf_any fl _ hfl _)))
                  go_wp2
                  go_roundw
                  case rel => exact ⟨p + 1, by omega, by omega, by go_num, by rw [HG2.out], IH.out.drewN _⟩
                  case measure => simp [intOf]; omega
                | false =>
                  cases h2 : hasB fl 106 with
                  | true =>
                    have HG2 : Hid (namB k0 (p + 1) = true) := by show _ = _; rw [HG.out.2, HB.out, hkd, h1, h2]; rfl
                    clear HB HG HKP
                    go_wp2_with fail
                    go_quiet ((go_at_call 32; exact Calls.quiet_of_same (isOf_any fl _ hfl _)))
                    go_wp2
                    go_roundw
                    case rel => exact ⟨p + 1, by omega, by omega, by go_num, by rw [HG2.out], IH.out.drewN _⟩
                    case measure => simp [intOf]; omega
                  | false =>
                    have HG2 : Hid (namB k0 (p + 1) = false) := by show _ = _; rw [HG.out.2, HB.out, hkd, h1, h2]; rfl
                    clear HB HG HKP
                    go_wp2_with fail
                    go_quiet ((go_at_call 32; exact Calls.quiet_of_same (isOf_any fl _ hfl _)))
                    go_wp2
                    go_roundw
                    case rel => exact ⟨p + 1, by omega, by omega, by go_num, by rw [HG2.out], IH.out.drewN _⟩
                    case measure => simp [intOf]; omega
            · have HKP : Hid (¬ k0 = p) := fun e => by
                rcases HK.out with h | h
                · exact hn (e ▸ h.2.2)
                · omega
              have hb : (nme p == nm) = false := by simpa using hn
              have HG : Hid (namB k0 (p + 1) = namB k0 p) := nam_miss HKP.out
              generalize nme p = np at *
              clear hn c3 c5 hfl HKP
              go_wp2_with fail
              go_quiet (fail)
              go_wp2
              go_roundw
              case rel => exact ⟨p + 1, by omega, by omega, by go_num, by rw [HG.out], IH.out.drewN _⟩
              case measure => simp [intOf]; omega
          · obtain rfl : p = 54 := by omega
            rw [nam_end hk]
            go_wp2
            go_meet
            exact ⟨rfl, I⟩
      case rest =>
        as_aux_lemma =>
        obtain ⟨rfl, I⟩ := hcut
        rename World => w3
        have HI : Hid (LI wA w3 tb) := I
        clear I I2
        go_upto_block 4 with fail
        go_cut [7] from 70 to 84 (fun x wx => x = .int .i64 (A : Int) ∧ wx = w3)
        case first =>
          as_aux_lemma =>
          go_wp2_with fail
          go_loop [7, 8] (fun x a => ∃ m : Nat, m ≤ l.length - (nm.length + 2) ∧ x = .int .i64 (atUp l nm.length m : Int) ∧ a = .int .i64 ((nm.length : Int) + 1 + m)) (fun x a => 2000 - (intOf a).toNat)
          case atStart => exact ⟨0, Nat.zero_le _, rfl, by go_num⟩
          case round =>
            as_aux_lemma =>
            obtain ⟨m, hm, rfl, rfl⟩ := hrel
            obtain ⟨g1, g2⟩ := atUp_le l nm.length hlt m hm
            have g1' : (0 : Int) ≤ atUp l nm.length m := by omega
            have g2' : (atUp l nm.length m : Int) ≤ l.length := by omega
            by_cases hc : (nm.length : Int) + 1 + m + 1 < l.length
            · have hx : ∀ W, (Instr.slice 9 (.string ⟨l.toArray⟩) (some (.int .i64 ((nm.length + 1 + m : Nat) : Int))) (some (.int .i64 (((nm.length + 1 + m : Nat) : Int) + 2))) none).run Tryz.prog W = .ok (.string ⟨((l.drop (nm.length + 1 + m)).take 2).toArray⟩) W := fun W => run_mid l (nm.length + 1 + m) 2 (by omega) W
              have HU : Hid (atUp l nm.length (m + 1) = if (l.drop (nm.length + 1 + m)).take 2 = [44, 32] then nm.length + 1 + m + 2 else atUp l nm.length m) := rfl
              generalize (l.drop (nm.length + 1 + m)).take 2 = t2 at *
              generalize hgi : nm.length + 1 + m = i at *
              have hi : (nm.length : Int) + 1 + m = i := by omega
              rw [hi] at hc ⊢
              have HI2 : Hid (nm.length + 1 + m = i) := hgi
              have i1 : (i : Int) + 2 ≤ l.length := by omega
              have i0 : (0 : Int) ≤ i := by omega
              clear hgi hi
              cases ht : t2 == [44, 32] with
              | true =>
                have HU2 : Hid (atUp l nm.length (m + 1) = i + 2) := by show _ = _; rw [HU.out, if_pos (by simpa using ht)]
                clear HU g1 g2
                go_wp2
                go_round
                case rel => exact ⟨m + 1, by have := HI2.out; omega, by rw [HU2.out]; go_num, by have := HI2.out; go_num⟩
                case measure => simp [intOf]; omega
              | false =>
                have HU2 : Hid (atUp l nm.length (m + 1) = atUp l nm.length m) := by show _ = _; rw [HU.out, if_neg (by simpa using ht)]
                clear HU g1 g2
                go_wp2
                go_round
                case rel => exact ⟨m + 1, by have := HI2.out; omega, by rw [HU2.out], by have := HI2.out; go_num⟩
                case measure => simp [intOf]; omega
            · have HE : Hid (m = l.length - (nm.length + 2)) := by show m = _; omega
              go_wp2
              go_meet
              exact ⟨by rw [HA.out, ← HE.out], rfl⟩
        case rest =>
          as_aux_lemma =>
          obtain ⟨rfl, rfl⟩ := hcut
          have hA0 : (0 : Int) ≤ A := by omega
          have hA1 : (A : Int) ≤ l.length := by have := HALH.out.2; omega
          have hef := ext_from l A HALH.out.2
          have his := fun W => isLabel_any (l.drop A) (by simp; omega) W
          generalize l.drop A = dl at *
          generalize isNm dl = lb at *
          generalize bjB k0 = bj at *
          cases bj with
          | false =>
            have HR : Hid (LO = -1) := by show LO = -1; rw [HV2.out]; rfl
            clear HV2
            go_wp2_with (go_at_call 47; refine (his _).mono ?_; rintro e w' ⟨rfl, rfl⟩)
            go_ret
            exact ⟨ret_int (by rw [HLO.out, HR.out]), HI.out.bel⟩
          | true =>
            cases lb with
            | false =>
              have HR : Hid (LO = -1) := by show LO = -1; rw [HV2.out]; rfl
              clear HV2
              go_wp2_with (go_at_call 47; refine (his _).mono ?_; rintro e w' ⟨rfl, rfl⟩)
              go_ret
              exact ⟨ret_int (by rw [HLO.out, HR.out]), HI.out.bel⟩
            | true =>
              have HR : Hid (LO = A) := by show LO = A; rw [HV2.out]; rfl
              clear HV2
              go_wp2_with (go_at_call 47; refine (his _).mono ?_; rintro e w' ⟨rfl, rfl⟩)
              go_ret
              exact ⟨ret_int (by rw [HLO.out, HR.out]), HI.out.bel⟩
end Go.Proofs.YtccnliihdhnckaaGreatDoor
