import Derived.Laws.Strings
import Derived.Test.YtjkencgcdlfjhaaGreatDoorQErrs
import Derived.Test.YtjkencgcdlfjhaaGreatDoorQCode
import Derived.Test.YtjkencgcdlfjhaaGreatDoorQSent
import Derived.Test.YtjkencgcdlfjhaaGreatDoorQLaid
import Derived.Test.YtjkencgcdlfjhaaGreatDoorJBase
import Derived.Test.YtjkencgcdlfjhaaGreatDoorJRamA
import Derived.Test.YtjkencgcdlfjhaaGreatDoorKIrChk
import Derived.Test.YtjkencgcdlfjhaaGreatDoorJOptP
import Derived.Test.YtjkencgcdlfjhaaGreatDoorJApp
import Derived.Test.YtjkencgcdlfjhaaGreatDoorJReads
import Derived.Test.YtjkencgcdlfjhaaGreatDoorKIrChk2
import Derived.Test.YtjkencgcdlfjhaaGreatDoorJPhase
import Derived.Test.YtjkencgcdlfjhaaGreatDoorJPlP
import Derived.Test.YtjkencgcdlfjhaaGreatDoorJPl1
import Derived.Test.YtjkencgcdlfjhaaGreatDoorJMk1
import Derived.Test.YtjkencgcdlfjhaaGreatDoorJDocW
import Derived.Test.YtjkencgcdlfjhaaGreatDoorJRam
import Derived.Test.YtjkencgcdlfjhaaGreatDoorJNew
import Derived.Test.YtjkencgcdlfjhaaGreatDoorJPass
import Derived.Test.YtjkencgcdlfjhaaGreatDoorJSt
import Derived.Test.YtjkencgcdlfjhaaGreatDoorJDoc1
import Derived.Test.YtjkencgcdlfjhaaGreatDoorQDoc5a
import Derived.Test.YtjkencgcdlfjhaaGreatDoorQDoc5b
import Derived.Test.YtjkencgcdlfjhaaGreatDoorJDoc5
import Derived.Test.YtjkencgcdlfjhaaGreatDoorJDoc6
import Derived.Test.YtjkencgcdlfjhaaGreatDoorKWords
import Derived.Test.YtjkencgcdlfjhaaGreatDoorJBits
import Derived.Test.YtjkencgcdlfjhaaGreatDoorJRes0
import Derived.Test.YtjkencgcdlfjhaaGreatDoorJRes3
import Derived.Test.YtjkencgcdlfjhaaGreatDoorJRun0
import Derived.Test.YtjkencgcdlfjhaaGreatDoorJPl5
import Derived.Test.YtjkencgcdlfjhaaGreatDoorJMk3
import Derived.Test.YtjkencgcdlfjhaaGreatDoorJMk6
import Derived.Test.YtjkencgcdlfjhaaGreatDoorKLayN
import Derived.Test.YtjkencgcdlfjhaaGreatDoorQGGt
import Derived.Test.YtjkencgcdlfjhaaGreatDoorKIrRes
import Derived.Test.YtjkencgcdlfjhaaGreatDoorQGQuo
import Derived.Test.YtjkencgcdlfjhaaGreatDoorQGRead
import Derived.Test.YtjkencgcdlfjhaaGreatDoorKModel
import Derived.Test.YtjkencgcdlfjhaaGreatDoorJPlace
import Derived.Test.YtjkencgcdlfjhaaGreatDoorKGEf
import Derived.Test.YtjkencgcdlfjhaaGreatDoorKGDo
import Derived.Test.YtjkencgcdlfjhaaGreatDoorJKnown
import Derived.Test.YtjkencgcdlfjhaaGreatDoorQRun2
import Derived.Test.YtjkencgcdlfjhaaGreatDoorJSame
import Derived.Test.YtjkencgcdlfjhaaGreatDoorKSameOps
import Derived.Test.YtjkencgcdlfjhaaGreatDoorJPl7
/-
  Codes in whole numbers: kinds of ops, what is wrong with an op or a code, what an op makes of registers and memory.
-/
namespace Go.Proofs.YtjkencgcdlfjhaaGreatDoor
open Num
set_option linter.unusedVariables false
/-- what is wrong with op number n of a code of len ops, behind one of instruction ah -/
def opF (o : Opx) (many : Int) (ah : Int) (last : Bool) : Int := if opE o many ≠ 0 then opE o many else if o.t < ah ∨ outB o = true ∧ last = false then 3 else 0
/-- the first op that is not well: its error and place; (0, -1): there is none -/
def opsF (many : Int) : Int → Nat → List Opx → Int × Int
  | _, _, [] => (0, -1)
  | ah, n, o :: l => if opF o many ah l.isEmpty ≠ 0 then (opF o many ah l.isEmpty, n) else opsF many o.t (n + 1) l
/-- what is wrong with a code: an error's number and place (-1: none) -/
def codeF (many : Int) (l : List Opx) : Int × Int :=
  if many < 1 ∨ 24 < many then (2, -1) else if 200 < l.length ∨ 8 < strs l then (8, -1) else if l = [] ∨ (l.getLast?.map outB).getD false = false then (3, -1) else opsF many 0 0 l
end Go.Proofs.YtjkencgcdlfjhaaGreatDoor
/-
  Package ir: which code is well: Check and what it calls.
-/
namespace Go.Proofs.YtjkencgcdlfjhaaGreatDoor
open Go.RowKit Go.Maps
open Num
set_option linter.unusedVariables false
set_option maxHeartbeats 1000000 in
theorem isOut_any (o : Opx) (w : World) : Calls Tryz.prog 48 #[opV o] w fun e w' => e = .returned (.bool (outB o)) ∧ Below w.heap.size w w' := by
  have h1 := kn_eq o.s 26 (by omega) (by omega)
  have h2 := kn_eq o.s 27 (by omega) (by omega)
  have e1 : Hid (outB o = ((o.s.toList == [111, 117, 116]) || (o.s.toList == [111, 117, 116, 114]))) := by
    show _ = _
    unfold outB
    rw [show (o.s.toList == [111, 117, 116]) = decide (kn o.s = 26) from h1, show (o.s.toList == [111, 117, 116, 114]) = decide (kn o.s = 27) from h2]
    simp
  clear h1 h2
  unfold opV
  go_enter Tryz.func48, Tryz.ntmps48
  go_wp2
  all_goals
    go_ret
    refine ⟨?_, (Below.refl _ _).alloc (Nat.le_refl _) _⟩
    rw [e1.out]
    simp_all
end Go.Proofs.YtjkencgcdlfjhaaGreatDoor
/-
  Better codes in whole numbers: what an op reads and writes, what is known, what is dead; what is left of a code.
-/
namespace Go.Proofs.YtjkencgcdlfjhaaGreatDoor
open Num
set_option linter.unusedVariables false
theorem opF_zero {o : Opx} {many ah : Int} {last : Bool} : opF o many ah last = 0 ↔ opE o many = 0 ∧ ah ≤ o.t ∧ (outB o = true → last = true) := by
  unfold opF
  by_cases h : opE o many = 0
  · rw [if_neg (by simpa using h)]
    by_cases h2 : o.t < ah ∨ outB o = true ∧ last = false
    · rw [if_pos h2]
      constructor
      · intro h; cases h
      · rintro ⟨_, h3, h4⟩
        rcases h2 with h2 | ⟨h5, h6⟩
        · omega
        · rw [h4 h5] at h6; cases h6
    · rw [if_neg h2]
      refine ⟨fun _ => ⟨h, by omega, fun h3 => ?_⟩, fun _ => rfl⟩
      cases last with
      | true => rfl
      | false => exact absurd (.inr ⟨h3, rfl⟩) h2
  · rw [if_pos h]
    exact ⟨fun h2 => absurd h2 h, fun h2 => h2.1⟩
theorem opsF_well (many : Int) : ∀ (l : List Opx) (ah : Int) (n : Nat), opsF many ah n l = (0, -1) ↔ wellL many ah l
  | [], ah, n => by simp [opsF, wellL]
  | o :: l, ah, n => by
    unfold opsF wellL
    by_cases h : opF o many ah l.isEmpty = 0
    · rw [if_neg (by simpa using h), opsF_well many l]
      have := opF_zero.1 h
      exact ⟨fun h2 => ⟨this.1, this.2.1, fun h3 => by simpa using this.2.2 h3, h2⟩, fun h2 => h2.2.2.2⟩
    · rw [if_pos h]
      constructor
      · intro e; have := congrArg Prod.snd e; simp at this
      · rintro ⟨h1, h2, h3, _⟩
        exact absurd (opF_zero.2 ⟨h1, h2, fun h4 => by rw [h3 h4]; rfl⟩) h
theorem wellL_mem {many : Int} : ∀ {l : List Opx} {ah : Int}, wellL many ah l → ∀ o ∈ l, opE o many = 0
  | _ :: _, _, h, o, hm => by
    rcases List.mem_cons.1 hm with rfl | hm
    · exact h.1
    · exact wellL_mem h.2.2.2 o hm
theorem codeF_well {many : Int} {l : List Opx} : codeF many l = (0, -1) ↔ Well many l := by
  unfold codeF
  by_cases h1 : many < 1 ∨ 24 < many
  · rw [if_pos h1]; exact ⟨fun h => (by cases h), fun W => by have := W.m0; have := W.m1; omega⟩
  rw [if_neg h1]
  by_cases h2 : 200 < l.length ∨ 8 < strs l
  · rw [if_pos h2]; exact ⟨fun h => (by cases h), fun W => by have := W.len; have := W.st; omega⟩
  rw [if_neg h2]
  by_cases h3 : l = [] ∨ (l.getLast?.map outB).getD false = false
  · rw [if_pos h3]
    refine ⟨fun h => (by cases h), fun W => ?_⟩
    obtain ⟨o, ho, hb⟩ := W.last
    rcases h3 with h3 | h3
    · exact absurd h3 W.ne
    · rw [ho] at h3; simp [hb] at h3
  rw [if_neg h3, opsF_well]
  refine ⟨fun h => ⟨by omega, by omega, by omega, by omega, ?_, h⟩, fun W => W.ops⟩
  cases hl : l.getLast? with
  | none => exact absurd (List.getLast?_eq_none_iff.1 hl) (fun e => h3 (.inl e))
  | some o =>
    refine ⟨o, rfl, ?_⟩
    cases hb : outB o with
    | true => rfl
    | false => exact absurd (.inr (by rw [hl]; exact hb)) h3
end Go.Proofs.YtjkencgcdlfjhaaGreatDoor
/-
  Package ir: storesOf, checkOp.
-/
namespace Go.Proofs.YtjkencgcdlfjhaaGreatDoor
open Go.RowKit Go.Maps
open Num
set_option linter.unusedVariables false
set_option maxRecDepth 100000 in
set_option maxHeartbeats 2000000 in
theorem storesOf_any {w : World} {v : Value} {l : List Opx} (A : OpsIn w v l) (hl : (l.length : Int) ≤ 1000000) :
    Calls Tryz.prog 47 #[v] w fun e w' => e = .returned (.int .i64 (strs l)) ∧ Below w.heap.size w w' := by
  obtain ⟨ao, cap, rfl, hc, hh⟩ := A.sh
  have HH : Hid (0 < l.length → ∃ b off : Nat, ao = some ⟨b, off, none⟩ ∧ ∀ (i : Nat) (o : Opx), l[i]? = some o → ∀ (j : Nat) (u : Value), (opC o)[j]? = some u → w.cell? ⟨b, off + i * 6 + j, none⟩ = some u) := hh
  clear hh A
  go_enter Tryz.func47, Tryz.ntmps47
  go_wp2
  go_loopw [3, 8] (fun n i wr => ∃ j : Nat, j ≤ l.length ∧ i = .int .i64 j ∧ n = .int .i64 (strs (l.take j)) ∧ Below w.heap.size w wr) (fun _ i _ => l.length - (intOf i).toNat)
  case atStart => exact ⟨0, Nat.zero_le _, rfl, rfl, Below.refl _ _⟩
  case round =>
    obtain ⟨j, hj, rfl, rfl, hB⟩ := hrel
    by_cases hlt : j < l.length
    · have ho : l[j]? = some l[j] := List.getElem?_eq_getElem hlt
      obtain ⟨b, off, rfl, hcell⟩ := HH.out (by omega)
      obtain ⟨x0, x1, x2, x3, x4, x5⟩ := op_cells (w := wr) (fun k u hk => by rw [hB.cell (World.block_lt_of_cell? _ _ (hcell j _ ho k u hk))]; exact hcell j _ ho k u hk)
      have hk := kn_eq l[j].s 24 (by omega) (by omega)
      have HS : Hid (strs (l.take (j + 1)) = strs (l.take j) + (if l[j].k = 24 then 1 else 0)) := by
        show _ = _; rw [take_snoc' ho, strs_snoc]
      have hb := strs_le (l.take j)
      have hb2 : (l.take j).length ≤ j := List.length_take_le _ _
      have hlt' : (j : Int) < l.length := by omega
      clear ho hcell
      generalize l[j] = o at *
      by_cases h24 : kn o.s = 24
      · have hk' : (o.s.toList == [115, 116, 111, 114, 101]) = true := by rw [show (o.s.toList == [115, 116, 111, 114, 101]) = _ from hk]; simpa using h24
        clear hk
        go_wp2
        go_roundw
        case rel => exact ⟨j + 1, by omega, by go_num, by rw [HS.out, if_pos h24]; go_num, hB.alloc (by have := hB.size; omega) _⟩
        case measure => simp [intOf]; omega
      · have hk' : (o.s.toList == [115, 116, 111, 114, 101]) = false := by rw [show (o.s.toList == [115, 116, 111, 114, 101]) = _ from hk]; simpa using h24
        clear hk
        go_wp2
        go_roundw
        case rel => exact ⟨j + 1, by omega, by go_num, by rw [HS.out, if_neg h24]; go_num, hB.alloc (by have := hB.size; omega) _⟩
        case measure => simp [intOf]; omega
    · obtain rfl : j = l.length := by omega
      go_wp2
      go_ret
      exact ⟨by rw [List.take_length]; rfl, hB⟩
end Go.Proofs.YtjkencgcdlfjhaaGreatDoor
/-
  Rows of ops over registers and memory, as the document runs them, in whole numbers; better codes end alike.
-/
namespace Go.Proofs.YtjkencgcdlfjhaaGreatDoor
open Num
set_option linter.unusedVariables false
def run1 (wt : Int → Bool) (l : List Opx) (x m : Nat → Int) : Oz := runZ wt (eachL l) x m
theorem run1_cons (wt : Int → Bool) (o : Opx) (l : List Opx) (x m : Nat → Int) : run1 wt (o :: l) x m = if (resZ wt x m o).trap = true then .trap o.t else if (appZ ⟨x, m, -1⟩ o (resZ wt x m o)).lv < 0 then run1 wt l (appZ ⟨x, m, -1⟩ o (resZ wt x m o)).x (appZ ⟨x, m, -1⟩ o (resZ wt x m o)).m else .leave (appZ ⟨x, m, -1⟩ o (resZ wt x m o)) := by
  show runZ wt ([o] :: eachL l) x m = _
  unfold runZ
  have e : trapZ wt x m [o] = if (resZ wt x m o).trap = true then some o.t else none := by
    unfold trapZ
    rw [List.find?_cons]
    cases h : (resZ wt x m o).trap <;> simp
  rw [e]
  by_cases h : (resZ wt x m o).trap = true
  · rw [if_pos h, if_pos h]
  · rw [if_neg h, if_neg h]; rfl
end Go.Proofs.YtjkencgcdlfjhaaGreatDoor
/-
  Package ir: Check.
-/
namespace Go.Proofs.YtjkencgcdlfjhaaGreatDoor
open Go.RowKit Go.Maps
open Num
set_option linter.unusedVariables false
theorem opsF_cons (many ah : Int) (n : Nat) (o : Opx) (l : List Opx) : opsF many ah n (o :: l) = if opF o many ah l.isEmpty ≠ 0 then (opF o many ah l.isEmpty, (n : Int)) else opsF many o.t (n + 1) l := rfl
set_option maxRecDepth 100000 in
set_option maxHeartbeats 1000000 in
theorem check_any (pe : Nat → Addr) {w : World} (E : Eg pe w) {v : Value} {l : List Opx} (A : OpsIn w v l) (hl : (l.length : Int) ≤ 1000000) (pc many : Int) (m0 : -9223372036854775808 ≤ many) (m1 : many ≤ 9223372036854775807) :
    Calls Tryz.prog 15 #[.agg #[.int .u32 pc, .int .i64 many, v]] w fun e w' => (∃ x, e = .returned x ∧ CErr pe w' (codeF many l) x) ∧ Below w.heap.size w w' := by
  have A0 := A
  obtain ⟨ao, cap, rfl, hc, hh⟩ := A.sh
  have hst : ∀ w', Below w.heap.size w w' → Calls Tryz.prog 47 #[.slice ao l.length cap] w' fun e w'' => e = .returned (.int .i64 (strs l)) ∧ Below w'.heap.size w' w'' := fun w' hb => storesOf_any (A.stays hb) hl
  have hE : ∀ w', Below w.heap.size w w' → Eg pe w' := fun w' hb => E.stays hb
  have HH : Hid (0 < l.length → ∃ b off : Nat, ao = some ⟨b, off, none⟩ ∧ ∀ (i : Nat) (o : Opx), l[i]? = some o → ∀ (j : Nat) (u : Value), (opC o)[j]? = some u → w.cell? ⟨b, off + i * 6 + j, none⟩ = some u) := hh
  have hOk : Hid (∀ o ∈ l, o.ok) := A.ok
  obtain ⟨z2, z3, z4, z8⟩ := E.size
  obtain ⟨e2, e3, e4, e8⟩ := E
  clear hh A A0
  by_cases hm1 : many < 1
  · have HF : Hid (codeF many l = (2, -1)) := by show _ = _; unfold codeF; rw [if_pos (Or.inl hm1)]
    clear hst hE HH
    go_enter Tryz.func15, Tryz.ntmps15
    go_wp2
    go_ret
    exact ⟨⟨_, rfl, .inl ⟨by rw [HF.out], by rw [HF.out]; rfl⟩⟩, (Below.refl _ _).alloc (Nat.le_refl _) _⟩
  by_cases hm2 : 24 < many
  · have HF : Hid (codeF many l = (2, -1)) := by show _ = _; unfold codeF; rw [if_pos (Or.inr hm2)]
    clear hst hE HH
    go_enter Tryz.func15, Tryz.ntmps15
    go_wp2
    go_ret
    exact ⟨⟨_, rfl, .inl ⟨by rw [HF.out], by rw [HF.out]; rfl⟩⟩, (Below.refl _ _).alloc (Nat.le_refl _) _⟩
  have hm : ¬ (many < 1 ∨ 24 < many) := by omega
  by_cases hl2 : 200 < l.length
  · have HF : Hid (codeF many l = (8, -1)) := by show _ = _; unfold codeF; rw [if_neg hm, if_pos (Or.inl hl2)]
    have hl2' : (200 : Int) < l.length := by omega
    clear hst hE HH hm
    go_enter Tryz.func15, Tryz.ntmps15
    go_wp2
    go_ret
    exact ⟨⟨_, rfl, .inl ⟨by rw [HF.out], by rw [HF.out]; rfl⟩⟩, (Below.refl _ _).alloc (Nat.le_refl _) _⟩
  have hl2' : ¬ (200 : Int) < l.length := by omega
  have hB0 : Below w.heap.size w (w.alloc (.cells #[.int .u32 pc, .int .i64 many, .slice ao l.length cap] 35)) := (Below.refl _ _).alloc (Nat.le_refl _) _
  by_cases hs8 : 8 < strs l
  · have HF : Hid (codeF many l = (8, -1)) := by show _ = _; unfold codeF; rw [if_neg hm, if_pos (Or.inr hs8)]
    have hs8' : (8 : Int) < strs l := by omega
    clear hE HH hm hl2
    go_enter Tryz.func15, Tryz.ntmps15
    go_wp2_with fail
    refine (hst _ hB0).mono ?_
    rintro e w1 ⟨rfl, hb1⟩
    have q8 : w1.cell? ⟨1, 0, none⟩ = _ := (hb1.cell (p := ⟨1, 0, none⟩) (by simp; omega)).trans ((World.grownBy_alloc w _ none).cell e8 (by simp))
    clear hst
    go_wp2
    go_ret
    exact ⟨⟨_, rfl, .inl ⟨by rw [HF.out], by rw [HF.out]; rfl⟩⟩, hB0.trans (hb1.mono (by simp))⟩
  have hs8' : ¬ (8 : Int) < strs l := by omega
  have hn8 : ¬ (200 < l.length ∨ 8 < strs l) := by omega
  by_cases hnil : l = []
  · have HF : Hid (codeF many l = (3, -1)) := by show _ = _; unfold codeF; rw [if_neg hm, if_neg hn8, if_pos (Or.inl hnil)]
    have hlen : l.length = 0 := by rw [hnil]; rfl
    have hc0 : (l.length : Int) = 0 := by omega
    subst hnil
    clear hE HH hm hl2 hn8 hOk
    go_enter Tryz.func15, Tryz.ntmps15
    go_wp2_with fail
    refine (hst _ hB0).mono ?_
    rintro e w1 ⟨rfl, hb1⟩
    have q3 : w1.cell? ⟨2, 0, none⟩ = _ := (hb1.cell (p := ⟨2, 0, none⟩) (by simp <;> omega)).trans ((World.grownBy_alloc w _ none).cell e3 (by simp))
    obtain ⟨c, hf⟩ := bcell6 hb1
    clear hst
    go_wp2
    go_ret
    exact ⟨⟨_, rfl, .inl ⟨by rw [HF.out], by rw [HF.out]; rfl⟩⟩, hB0.trans (hb1.mono (by simp))⟩
  have hpos : 0 < l.length := List.length_pos_iff.2 hnil
  obtain ⟨b, off, rfl, hcell⟩ := HH.out hpos
  obtain ⟨lo, hlo, hlast⟩ : ∃ o, l[l.length - 1]? = some o ∧ l.getLast? = some o := by
    have h : l[l.length - 1]? = some l[l.length - 1] := List.getElem?_eq_getElem (by omega)
    exact ⟨_, h, by rw [List.getLast?_eq_getElem?]; exact h⟩
  have hbl : b < w.heap.size := World.block_lt_of_cell? _ _ (hcell _ _ hlo 0 _ rfl)
  have hlc : Hid (∀ w' : World, (∀ o, w'.cell? ⟨b, o, none⟩ = w.cell? ⟨b, o, none⟩) → ∀ (i : Nat) (o : Opx), l[i]? = some o → w'.cell? ⟨b, off + i * 6, none⟩ = some (.string o.s) ∧ w'.cell? ⟨b, off + i * 6 + 1, none⟩ = some (.int .i64 o.d) ∧ w'.cell? ⟨b, off + i * 6 + 2, none⟩ = some (.int .i64 o.a) ∧ w'.cell? ⟨b, off + i * 6 + 3, none⟩ = some (.int .i64 o.b) ∧ w'.cell? ⟨b, off + i * 6 + 4, none⟩ = some (.int .u32 o.i) ∧ w'.cell? ⟨b, off + i * 6 + 5, none⟩ = some (.int .i64 o.t)) := by
    intro w' hw i o hi
    exact op_cells fun k u hk => by rw [hw]; exact hcell i o hi k u hk
  clear hcell HH
  have hlen1 : ((l.length : Int) - 1).toNat = l.length - 1 := by omega
  have hpos' : ¬ (l.length : Int) - 1 < 0 := by omega
  have hpos2 : (l.length : Int) - 1 < l.length := by omega
  cases hob : outB lo with
  | false =>
    have HF : Hid (codeF many l = (3, -1)) := by show _ = _; unfold codeF; rw [if_neg hm, if_neg hn8, if_pos (Or.inr (by rw [hlast]; exact hob))]
    clear hE hm hl2 hn8 hOk
    go_enter Tryz.func15, Tryz.ntmps15
    go_wp2_with fail
    refine (hst _ hB0).mono ?_
    rintro e w1 ⟨rfl, hb1⟩
    have hz1 : w.heap.size < w1.heap.size := by have := hb1.size; simp at this; omega
    have q3 : w1.cell? ⟨2, 0, none⟩ = _ := (hb1.cell (p := ⟨2, 0, none⟩) (by simp <;> omega)).trans ((World.grownBy_alloc w _ none).cell e3 (by simp))
    obtain ⟨c, hf⟩ := bcell6 hb1
    obtain ⟨x0, x1, x2, x3, x4, x5⟩ := hlc.out w1 (fun o => (hb1.cell (p := ⟨b, o, none⟩) (by simp; omega)).trans (hB0.cell (p := ⟨b, o, none⟩) hbl)) _ _ hlo
    have HB1 : Hid (Below w.heap.size w w1) := hB0.trans (hb1.mono (by simp))
    have hio := fun w' => isOut_any lo w'
    rw [hob] at hio
    unfold opV at hio
    clear hst hlo hlast hlc hob hb1
    go_wp2_with fail
    refine (hio _).mono ?_
    rintro e w2 ⟨rfl, hb2⟩
    have q3' : w2.cell? ⟨2, 0, none⟩ = _ := (hb2.cell (p := ⟨2, 0, none⟩) (show 2 < w1.heap.size by omega)).trans q3
    go_wp2
    go_ret
    exact ⟨⟨_, rfl, .inl ⟨by rw [HF.out], by rw [HF.out]; rfl⟩⟩, HB1.out.trans (hb2.mono (by omega))⟩
  | true =>
    have HF : Hid (codeF many l = opsF many 0 0 l) := by
      show _ = _; unfold codeF; rw [if_neg hm, if_neg hn8, if_neg (by rw [hlast]; simp [hob, hnil])]
    go_enter Tryz.func15, Tryz.ntmps15
    go_wp2_with fail
    refine (hst _ hB0).mono ?_
    rintro e w1 ⟨rfl, hb1⟩
    have hz1 : w.heap.size < w1.heap.size := by have := hb1.size; simp at this; omega
    obtain ⟨c, hf⟩ := bcell6 hb1
    obtain ⟨x0, x1, x2, x3, x4, x5⟩ := hlc.out w1 (fun o => (hb1.cell (p := ⟨b, o, none⟩) (by simp; omega)).trans (hB0.cell (p := ⟨b, o, none⟩) hbl)) _ _ hlo
    have HB1 : Hid (Below w.heap.size w w1) := hB0.trans (hb1.mono (by simp))
    have hio := fun w' => isOut_any lo w'
    rw [hob] at hio
    unfold opV at hio
    clear hst hlo hlast hob hb1 hm hn8
    go_wp2_with fail
    refine (hio _).mono ?_
    rintro e w2 ⟨rfl, hb2⟩
    have HC : Hid (Below w.heap.size w w2) := HB1.out.trans (hb2.mono (by omega))
    have k1 : w2.cell? ⟨w.heap.size, 1, none⟩ = some (.int .i64 many) := by rw [hb2.cell (p := ⟨w.heap.size, 1, none⟩) hz1, c]; simp
    have k2 : w2.cell? ⟨w.heap.size, 2, none⟩ = some (.slice (some ⟨b, off, none⟩) l.length cap) := by rw [hb2.cell (p := ⟨w.heap.size, 2, none⟩) hz1, c]; simp
    have hz2 : w.heap.size < w2.heap.size := by have := hb2.size; omega
    clear hio x0 x1 x2 x3 x4 x5 c hf HB1 hb2
    go_wp2
    go_loopw [4, 50] (fun a i wr => ∃ (j : Nat) (ah : Int), j ≤ l.length ∧ i = .int .i64 j ∧ a = .int .i64 ah ∧ opsF many 0 0 l = opsF many ah j (l.drop j) ∧ Below w.heap.size w wr ∧ wr.cell? ⟨w.heap.size, 1, none⟩ = some (.int .i64 many)) (fun _ i _ => l.length - (intOf i).toNat)
    case atStart => exact ⟨0, 0, Nat.zero_le _, rfl, rfl, rfl, HC.out, k1⟩
    case round =>
      obtain ⟨j, ah, hj, rfl, rfl, hop, hB, g1⟩ := hrel
      have HO : Hid (opsF many 0 0 l = opsF many ah j (l.drop j)) := hop
      clear hop k1 k2 HC
      by_cases hlt : j < l.length
      · obtain ⟨o, ho, hd, hom⟩ : ∃ o, l[j]? = some o ∧ l.drop j = o :: l.drop (j + 1) ∧ o ∈ l := ⟨l[j], List.getElem?_eq_getElem hlt, List.drop_eq_getElem_cons hlt, List.getElem_mem hlt⟩
        have hem : (l.drop (j + 1)).isEmpty = decide (l.length ≤ j + 1) := by rw [Bool.eq_iff_iff, List.isEmpty_iff, List.drop_eq_nil_iff]; simp
        rw [hd] at HO
        have HO2 : Hid (opsF many 0 0 l = if opF o many ah (decide (l.length ≤ j + 1)) ≠ 0 then (opF o many ah (decide (l.length ≤ j + 1)), (j : Int)) else opsF many o.t (j + 1) (l.drop (j + 1))) := by
          show _ = _; rw [HO.out, opsF_cons, hem]
        have HX : Hid (codeF many l = if opF o many ah (decide (l.length ≤ j + 1)) ≠ 0 then (opF o many ah (decide (l.length ≤ j + 1)), (j : Int)) else opsF many o.t (j + 1) (l.drop (j + 1))) := HF.out.trans HO2.out
        clear HO hd hem
        have hoK : o.ok := hOk.out _ hom
        obtain ⟨x0, x1, x2, x3, x4, x5⟩ := hlc.out wr (fun o => hB.cell (p := ⟨b, o, none⟩) hbl) _ _ ho
        have hlt' : (j : Int) < l.length := by omega
        have hzr : w.heap.size < wr.heap.size := World.block_lt_of_cell? _ _ g1
        have hbr : b < wr.heap.size := by have := hB.size; omega
        have hEr := hE wr hB
        have HBr : Hid (Below w.heap.size w wr) := hB
        clear ho hB hE hlc hOk HF hom
        have hBa : Below wr.heap.size wr (wr.alloc (.cells #[.string o.s, .int .i64 o.d, .int .i64 o.a, .int .i64 o.b, .int .u32 o.i, .int .i64 o.t] 92)) := (Below.refl _ _).alloc (Nat.le_refl _) _
        have q3r : wr.cell? ⟨2, 0, none⟩ = _ := hEr.e3
        have zr3 : 2 < wr.heap.size := hEr.size.2.1
        by_cases hE0 : opE o many = 0
        · have hck := checkOp_ok pe (hEr.stays hBa) o hoK many hE0
          unfold opV at hck
          have hio := fun w' => isOut_any o w'
          unfold opV at hio
          go_wp2_with fail
          refine hck.mono ?_
          rintro e w3 ⟨rfl, hb3⟩
          obtain ⟨c, hf⟩ := bcell6 hb3
          have hz3 : wr.heap.size < w3.heap.size := by have := hb3.size; simp at this; omega
          have HB3 : Hid (Below wr.heap.size wr w3) := hBa.trans (hb3.mono (by simp))
          have q3 : w3.cell? ⟨2, 0, none⟩ = _ := (HB3.out.cell (p := ⟨2, 0, none⟩) zr3).trans q3r
          have hz3' : 2 < w3.heap.size := by omega
          have g3 : w3.cell? ⟨w.heap.size, 1, none⟩ = some (.int .i64 many) := (HB3.out.cell (p := ⟨w.heap.size, 1, none⟩) hzr).trans g1
          clear hck hb3
          by_cases hta : o.t < ah
          · have HE : Hid (opF o many ah (decide (l.length ≤ j + 1)) = 3) := by show _ = _; unfold opF; rw [if_neg (by simpa using hE0), if_pos (Or.inl hta)]
            clear hio
            go_wp2
            go_ret
            refine ⟨⟨_, rfl, .inr ?_⟩, HBr.out.trans ((HB3.out.alloc (by omega) _).mono (by omega))⟩
            rw [HX.out, HE.out]
            exact ⟨by simp, by simp, w3.heap.size, rfl, by simp, by simp [erV]⟩
          · cases hob : outB o with
            | false =>
              have HE : Hid (opF o many ah (decide (l.length ≤ j + 1)) = 0) := by show _ = _; unfold opF; rw [if_neg (by simpa using hE0), if_neg (by rw [hob]; simp; omega)]
              rw [hob] at hio
              go_wp2_with fail
              refine (hio _).mono ?_
              rintro e w4 ⟨rfl, hb4⟩
              have c4 : w4.cell? ⟨wr.heap.size, 5, none⟩ = some (.int .i64 o.t) := by rw [hb4.cell (p := ⟨wr.heap.size, 5, none⟩) hz3, c]; simp
              have HB4 : Hid (Below wr.heap.size wr w4) := HB3.out.trans (hb4.mono (by omega))
              clear hio c hf q3 g3
              go_wp2
              go_roundw
              case rel =>
                refine ⟨j + 1, o.t, by omega, by go_num, rfl, ?_, HBr.out.trans (HB4.out.mono (by omega)), (HB4.out.cell (p := ⟨w.heap.size, 1, none⟩) hzr).trans g1⟩
                rw [HO2.out, HE.out]; simp
              case measure => simp [intOf]; omega
            | true =>
              rw [hob] at hio
              by_cases hjl : j + 1 < l.length
              · have HE : Hid (opF o many ah (decide (l.length ≤ j + 1)) = 3) := by show _ = _; unfold opF; rw [if_neg (by simpa using hE0), if_pos (Or.inr ⟨hob, by simp; omega⟩)]
                have hjl' : (j : Int) < (l.length : Int) - 1 := by omega
                go_wp2_with fail
                refine (hio _).mono ?_
                rintro e w4 ⟨rfl, hb4⟩
                have q4 : w4.cell? ⟨2, 0, none⟩ = _ := (hb4.cell (p := ⟨2, 0, none⟩) hz3').trans q3
                have HB4 : Hid (Below wr.heap.size wr w4) := HB3.out.trans (hb4.mono (by omega))
                have hz4 : wr.heap.size ≤ w4.heap.size := HB4.out.size
                clear hio c hf q3 g3
                go_wp2
                go_ret
                refine ⟨⟨_, rfl, .inr ?_⟩, HBr.out.trans ((HB4.out.alloc (by omega) _).mono (by omega))⟩
                rw [HX.out, HE.out]
                exact ⟨by simp, by simp, w4.heap.size, rfl, by simp, by simp [erV]⟩
              · have HE : Hid (opF o many ah (decide (l.length ≤ j + 1)) = 0) := by show _ = _; unfold opF; rw [if_neg (by simpa using hE0), if_neg (by simp; omega)]
                have hjl' : ¬ (j : Int) < (l.length : Int) - 1 := by omega
                go_wp2_with fail
                refine (hio _).mono ?_
                rintro e w4 ⟨rfl, hb4⟩
                have c4 : w4.cell? ⟨wr.heap.size, 5, none⟩ = some (.int .i64 o.t) := by rw [hb4.cell (p := ⟨wr.heap.size, 5, none⟩) hz3, c]; simp
                have HB4 : Hid (Below wr.heap.size wr w4) := HB3.out.trans (hb4.mono (by omega))
                clear hio c hf q3 g3
                go_wp2
                go_roundw
                case rel =>
                  refine ⟨j + 1, o.t, by omega, by go_num, rfl, ?_, HBr.out.trans (HB4.out.mono (by omega)), (HB4.out.cell (p := ⟨w.heap.size, 1, none⟩) hzr).trans g1⟩
                  rw [HO2.out, HE.out]; simp
                case measure => simp [intOf]; omega
        · have hck := checkOp_bad pe (hEr.stays hBa) o hoK many hE0
          unfold opV at hck
          have HE : Hid (opF o many ah (decide (l.length ≤ j + 1)) = opE o many) := by show _ = _; unfold opF; rw [if_pos hE0]
          go_wp2_with fail
          refine hck.mono ?_
          rintro e w3 ⟨rfl, hb3⟩
          have HB3 : Hid (Below wr.heap.size wr w3) := hBa.trans (hb3.mono (by simp))
          have hz3 : wr.heap.size ≤ w3.heap.size := HB3.out.size
          clear hck hb3
          go_wp2
          go_ret
          refine ⟨⟨_, rfl, .inr ?_⟩, HBr.out.trans ((HB3.out.alloc (by omega) _).mono (by omega))⟩
          rw [HX.out, HE.out, if_pos hE0]
          exact ⟨by simp, hE0, w3.heap.size, rfl, by simp, by simp [erV, hE0]⟩
      · obtain rfl : j = l.length := by omega
        go_wp2
        go_ret
        refine ⟨⟨_, rfl, .inl ?_⟩, hB⟩
        rw [HF.out, HO.out]
        simp [opsF, erV]
end Go.Proofs.YtjkencgcdlfjhaaGreatDoor
/-
  The statements' own functions: OwnOps, LongOps.
-/
namespace Go.Proofs.YtjkencgcdlfjhaaGreatDoor
open Go.RowKit Go.Maps
open Num
set_option linter.unusedVariables false
set_option maxRecDepth 100000 in
set_option maxHeartbeats 2000000 in
theorem ownOps_any {w : World} {v : Value} {l : List Opx} (A : OpsIn w v l) (hl : l.length ≤ 1000) :
    Calls Tryz.prog 11 #[v] w fun e w' => ∃ v', e = .returned v' ∧ OpsIn w' v' l ∧ Below w.heap.size w w' := by
  have A0 := A
  obtain ⟨ao, cap, rfl, hc, hh⟩ := A.sh
  have OK : Hid (∀ o ∈ l, o.ok) := A.ok
  obtain ⟨i0, hi, hz0, hz1, hz2⟩ := info_parts infoOp
  clear A
  cases ao with
  | none =>
    have hl0 : l = [] := by
      rcases Nat.eq_zero_or_pos l.length with h | h
      · exact List.length_eq_zero_iff.1 h
      · obtain ⟨b, off, e, _⟩ := hh h; cases e
    subst hl0
    clear hh A0
    go_enter Tryz.func11, Tryz.ntmps11
    go_wp2
    go_ret
    exact ⟨_, rfl, ⟨⟨none, 0, rfl, Nat.le_refl _, fun h => by cases h⟩, OK.out⟩, Below.refl _ _⟩
  | some ad =>
    have hnews : ∀ j u, (opL l)[j]? = some u → w.cell? (ad.add j) = some u := by
      rcases Nat.eq_zero_or_pos l.length with h | h
      · have : l = [] := List.length_eq_zero_iff.1 h
        subst this; intro j u hj; simp [opL] at hj
      · obtain ⟨b, off, e, hcl⟩ := hh h
        injection e with e; subst e
        exact opL_at hcl
    clear hh A0
    go_enter Tryz.func11, Tryz.ntmps11
    go_wp2_with (at_builtin; refine wpList_append_moved rfl _ _ 23 rfl w.heap.size 92 i0 (.agg #[.string ⟨#[]⟩, .int .i64 0, .int .i64 0, .int .i64 0, .int .u32 0, .int .i64 0]) 6 56 Tryz.underlying23 hi hz0 hz1 hz2 rfl (by decide) (.slice none 0 0) 0 [] rfl (World.ownsRow_nil _ _ _ _) ad l.length cap (opL l) rfl (opL_len l) hnews (opL_one l) (by unfold maxLen; omega) (by omega) (Nat.le_refl _) ?_; intro v' w3 ho hg hm)
    go_ret
    rw [Nat.zero_add, List.nil_append] at ho
    exact ⟨_, rfl, ops_of_row (n := 0) ho OK.out, ⟨hg.os, hg.tape, hg.output, hg.size, fun k hk => hg.block k hk (by intro e; cases e)⟩⟩
end Go.Proofs.YtjkencgcdlfjhaaGreatDoor
/-
  The document's CodeFault.
-/
namespace Go.Proofs.YtjkencgcdlfjhaaGreatDoor
open Go.RowKit Go.Maps
open Num
set_option linter.unusedVariables false
theorem opE_cases (o : Opx) (many : Int) : opE o many = 0 ∨ opE o many = 2 ∨ opE o many = 3 ∨ opE o many = 4 := by
  unfold opE
  split
  · omega
  · split
    · omega
    · split <;> omega
end Go.Proofs.YtjkencgcdlfjhaaGreatDoor
/-
  each: rows of one op.
-/
namespace Go.Proofs.YtjkencgcdlfjhaaGreatDoor
open Go.RowKit Go.Maps
open Num
set_option linter.unusedVariables false
theorem ones_new (w : World) (o : Opx) (ok : o.ok) : OpsIn (w.alloc (.cells #[.string o.s, .int .i64 o.d, .int .i64 o.a, .int .i64 o.b, .int .u32 o.i, .int .i64 o.t] 92)) (.slice (some ⟨w.heap.size, 0, none⟩) 1 1) [o] := by
  refine ⟨⟨some ⟨w.heap.size, 0, none⟩, 1, rfl, by simp, fun _ => ⟨w.heap.size, 0, rfl, fun i o' hi j u hu => ?_⟩⟩, fun o' ho => by rw [List.mem_singleton.1 ho]; exact ok⟩
  cases i with
  | zero =>
    obtain rfl : o = o' := by simpa using hi
    rw [show 0 + 0 * 6 + j = j by omega, bcD]
    rw [List.getElem?_toArray]
    exact hu
  | succ i => simp at hi
theorem infoOps : (Tryz.prog.info? 23).map (fun i => (i.zero, i.size, i.bytes)) = some (some (.slice none 0 0), 1, 24) := by kernel_rfl
end Go.Proofs.YtjkencgcdlfjhaaGreatDoor
/-
  Package host: read.
-/
namespace Go.Proofs.YtjkencgcdlfjhaaGreatDoor
open Go.RowKit Go.Maps
open Num
set_option linter.unusedVariables false
theorem end_putG {W : World} {B : Nat} {u0 u1 : Value} (z0 : W.cell? ⟨B, 0, none⟩ = some u0) (z1 : W.cell? ⟨B, 1, none⟩ = some u1) (v0 v1 : Value) : ((W.setCell ⟨B, 0, none⟩ v0).setCell ⟨B, 1, none⟩ v1).cell? ⟨B, 0, none⟩ = some v0 ∧ ((W.setCell ⟨B, 0, none⟩ v0).setCell ⟨B, 1, none⟩ v1).cell? ⟨B, 1, none⟩ = some v1 := by
  have a1 := World.cell?_setCell_same W ⟨B, 0, none⟩ v0 z0
  have a2 : (W.setCell ⟨B, 0, none⟩ v0).cell? ⟨B, 1, none⟩ = some u1 := by rw [World.cell?_setCell_other _ _ _ _ (by intro e; injection e with e1 e2; omega)]; exact z1
  exact ⟨by rw [World.cell?_setCell_other _ _ _ _ (by intro e; injection e with e1 e2; omega)]; exact a1, World.cell?_setCell_same _ _ _ a2⟩
theorem end_loadG {w : World} {B : Nat} {a b : Value} (z0 : w.cell? ⟨B, 0, none⟩ = some a) (z1 : w.cell? ⟨B, 1, none⟩ = some b) : (loadVar 45 ⟨B, 0, none⟩).run Tryz.prog w = .ok (.agg #[a, b]) w := by
  simp [go_sem, z0, z1]
section
variable {w : World} {base mb stb sb bp bw bh N : Nat} {X : Nat → Int} {p : List Pq} {vi : Value} {m : Nat → Int} {wt ht : Int → Bool}
end
end Go.Proofs.YtjkencgcdlfjhaaGreatDoor
/-
  The document's CodeFault, walked.
-/
namespace Go.Proofs.YtjkencgcdlfjhaaGreatDoor
open Go.RowKit Go.Maps
open Num
set_option linter.unusedVariables false
theorem opE_t0 {o : Opx} {many : Int} (h : opE o many = 0) : 0 ≤ o.t := by
  unfold opE at h
  split at h
  · omega
  · split at h
    · omega
    · rename_i h2; simp [bndB] at h2; exact h2.2.2.2.1
set_option maxRecDepth 100000 in
set_option maxHeartbeats 4000000 in
theorem codeFault_any {w : World} {v : Value} {l : List Opx} (A : OpsIn w v l) (hl : (l.length : Int) ≤ 1000000) (many : Int) (m0 : -9223372036854775808 ≤ many) (m1 : many ≤ 9223372036854775807) :
    Calls Tryz.prog 12 #[.int .i64 many, v] w fun e w' => e = .returned (.agg #[.int .i64 (codeF many l).1, .int .i64 (codeF many l).2]) ∧ Below w.heap.size w w' := by
  have A0 := A
  obtain ⟨ao, cap, rfl, hc, hh⟩ := A.sh
  have hst : ∀ w', Below w.heap.size w w' → Calls Tryz.prog 42 #[.slice ao l.length cap] w' fun e w'' => e = .returned (.int .i64 (strs l)) ∧ w'' = w' := fun w' hb => storesD_any (A.stays hb) hl
  have hba := fun n w => bare_any n w
  have HH : Hid (0 < l.length → ∃ b off : Nat, ao = some ⟨b, off, none⟩ ∧ ∀ (i : Nat) (o : Opx), l[i]? = some o → ∀ (j : Nat) (u : Value), (opC o)[j]? = some u → w.cell? ⟨b, off + i * 6 + j, none⟩ = some u) := hh
  have hOk : Hid (∀ o ∈ l, o.ok) := A.ok
  have hB0 : Below w.heap.size w (w.alloc (.cells #[.int .i64 0, .int .i64 0] 37)) := (Below.refl _ _).alloc (Nat.le_refl _) _
  have hF0 := FBox.new w
  clear hh A A0
  by_cases hm1 : many < 1
  · have HF : Hid (codeF many l = (2, -1)) := by show _ = _; unfold codeF; rw [if_pos (Or.inl hm1)]
    clear hst HH
    go_enter Tryz.func12, Tryz.ntmps12
    go_upto_region 1 with fail
    generalize w.alloc (.cells #[.int .i64 0, .int .i64 0] 37) = V at *
    have HB0 : Hid (Below w.heap.size w V) := hB0
    have HF0 : Hid (FBox V w.heap.size) := hF0
    clear hB0 hF0
    go_wp2_with fail
    refine (hba 2 _).mono ?_
    rintro e w2 ⟨rfl, hb2⟩
    obtain ⟨⟨u0, z0⟩, ⟨u1, z1⟩, f0, f1⟩ := HF0.out.stays hb2
    have HB2 : Hid (Below w.heap.size w w2) := HB0.out.trans (hb2.mono HB0.out.size)
    have HF2 : Hid (FBox w2 w.heap.size) := HF0.out.stays hb2
    clear hb2 HB0 HF0
    go_wp2
    obtain ⟨q1, q2⟩ := fault_put HB2.out HF2.out 2 (-1)
    refine bodyPost_ret (results_one_cell (A := ⟨w.heap.size, 0, none⟩) rfl _ _ _ rfl q1) rfl ?_
    exact ⟨by rw [HF.out], q2⟩
  by_cases hm2 : 24 < many
  · have HF : Hid (codeF many l = (2, -1)) := by show _ = _; unfold codeF; rw [if_pos (Or.inr hm2)]
    clear hst HH
    go_enter Tryz.func12, Tryz.ntmps12
    go_upto_region 1 with fail
    generalize w.alloc (.cells #[.int .i64 0, .int .i64 0] 37) = V at *
    have HB0 : Hid (Below w.heap.size w V) := hB0
    have HF0 : Hid (FBox V w.heap.size) := hF0
    clear hB0 hF0
    go_wp2_with fail
    refine (hba 2 _).mono ?_
    rintro e w2 ⟨rfl, hb2⟩
    obtain ⟨⟨u0, z0⟩, ⟨u1, z1⟩, f0, f1⟩ := HF0.out.stays hb2
    have HB2 : Hid (Below w.heap.size w w2) := HB0.out.trans (hb2.mono HB0.out.size)
    have HF2 : Hid (FBox w2 w.heap.size) := HF0.out.stays hb2
    clear hb2 HB0 HF0
    go_wp2
    obtain ⟨q1, q2⟩ := fault_put HB2.out HF2.out 2 (-1)
    refine bodyPost_ret (results_one_cell (A := ⟨w.heap.size, 0, none⟩) rfl _ _ _ rfl q1) rfl ?_
    exact ⟨by rw [HF.out], q2⟩
  have hm : ¬ (many < 1 ∨ 24 < many) := by omega
  by_cases hl2 : 200 < l.length
  · have HF : Hid (codeF many l = (8, -1)) := by show _ = _; unfold codeF; rw [if_neg hm, if_pos (Or.inl hl2)]
    have hl2' : (200 : Int) < l.length := by omega
    clear hst HH hm
    go_enter Tryz.func12, Tryz.ntmps12
    go_upto_region 1 with fail
    generalize w.alloc (.cells #[.int .i64 0, .int .i64 0] 37) = V at *
    have HB0 : Hid (Below w.heap.size w V) := hB0
    have HF0 : Hid (FBox V w.heap.size) := hF0
    clear hB0 hF0
    go_wp2_with fail
    refine (hba 8 _).mono ?_
    rintro e w2 ⟨rfl, hb2⟩
    obtain ⟨⟨u0, z0⟩, ⟨u1, z1⟩, f0, f1⟩ := HF0.out.stays hb2
    have HB2 : Hid (Below w.heap.size w w2) := HB0.out.trans (hb2.mono HB0.out.size)
    have HF2 : Hid (FBox w2 w.heap.size) := HF0.out.stays hb2
    clear hb2 HB0 HF0
    go_wp2
    obtain ⟨q1, q2⟩ := fault_put HB2.out HF2.out 8 (-1)
    refine bodyPost_ret (results_one_cell (A := ⟨w.heap.size, 0, none⟩) rfl _ _ _ rfl q1) rfl ?_
    exact ⟨by rw [HF.out], q2⟩
  have hl2' : ¬ (200 : Int) < l.length := by omega
  by_cases hs8 : 8 < strs l
  · have HF : Hid (codeF many l = (8, -1)) := by show _ = _; unfold codeF; rw [if_neg hm, if_pos (Or.inr hs8)]
    have hs8' : (8 : Int) < strs l := by omega
    clear HH hm hl2
    go_enter Tryz.func12, Tryz.ntmps12
    go_upto_region 1 with fail
    generalize w.alloc (.cells #[.int .i64 0, .int .i64 0] 37) = V at *
    have HB0 : Hid (Below w.heap.size w V) := hB0
    have HF0 : Hid (FBox V w.heap.size) := hF0
    have hst' := hst V hB0
    clear hB0 hF0 hst
    go_wp2_with fail
    refine hst'.mono ?_
    rintro e w1 ⟨rfl, hw⟩
    rw [hw]
    clear hw w1 hst'
    go_wp2_with fail
    refine (hba 8 _).mono ?_
    rintro e w2 ⟨rfl, hb2⟩
    obtain ⟨⟨u0, z0⟩, ⟨u1, z1⟩, f0, f1⟩ := HF0.out.stays hb2
    have HB2 : Hid (Below w.heap.size w w2) := HB0.out.trans (hb2.mono HB0.out.size)
    have HF2 : Hid (FBox w2 w.heap.size) := HF0.out.stays hb2
    clear hb2 HB0 HF0
    go_wp2
    obtain ⟨q1, q2⟩ := fault_put HB2.out HF2.out 8 (-1)
    refine bodyPost_ret (results_one_cell (A := ⟨w.heap.size, 0, none⟩) rfl _ _ _ rfl q1) rfl ?_
    exact ⟨by rw [HF.out], q2⟩
  have hs8' : ¬ (8 : Int) < strs l := by omega
  have hn8 : ¬ (200 < l.length ∨ 8 < strs l) := by omega
  by_cases hnil : l = []
  · have HF : Hid (codeF many l = (3, -1)) := by show _ = _; unfold codeF; rw [if_neg hm, if_neg hn8, if_pos (Or.inl hnil)]
    have hlen : l.length = 0 := by rw [hnil]; rfl
    have hc0 : (l.length : Int) = 0 := by omega
    subst hnil
    clear HH hm hl2 hn8 hOk
    go_enter Tryz.func12, Tryz.ntmps12
    go_upto_region 1 with fail
    generalize w.alloc (.cells #[.int .i64 0, .int .i64 0] 37) = V at *
    have HB0 : Hid (Below w.heap.size w V) := hB0
    have HF0 : Hid (FBox V w.heap.size) := hF0
    have hst' := hst V hB0
    clear hB0 hF0 hst
    go_wp2_with fail
    refine hst'.mono ?_
    rintro e w1 ⟨rfl, hw⟩
    rw [hw]
    clear hw w1 hst'
    go_wp2_with fail
    refine (hba 3 _).mono ?_
    rintro e w2 ⟨rfl, hb2⟩
    obtain ⟨⟨u0, z0⟩, ⟨u1, z1⟩, f0, f1⟩ := HF0.out.stays hb2
    have HB2 : Hid (Below w.heap.size w w2) := HB0.out.trans (hb2.mono HB0.out.size)
    have HF2 : Hid (FBox w2 w.heap.size) := HF0.out.stays hb2
    clear hb2 HB0 HF0
    go_wp2
    obtain ⟨q1, q2⟩ := fault_put HB2.out HF2.out 3 (-1)
    refine bodyPost_ret (results_one_cell (A := ⟨w.heap.size, 0, none⟩) rfl _ _ _ rfl q1) rfl ?_
    exact ⟨by rw [HF.out], q2⟩
  have hpos : 0 < l.length := List.length_pos_iff.2 hnil
  obtain ⟨b, off, rfl, hcell⟩ := HH.out hpos
  obtain ⟨lo, hlo, hlast⟩ : ∃ o, l[l.length - 1]? = some o ∧ l.getLast? = some o := by
    have h : l[l.length - 1]? = some l[l.length - 1] := List.getElem?_eq_getElem (by omega)
    exact ⟨_, h, by rw [List.getLast?_eq_getElem?]; exact h⟩
  have hbl : b < w.heap.size := World.block_lt_of_cell? _ _ (hcell _ _ hlo 0 _ rfl)
  have hlc : Hid (∀ w' : World, Below w.heap.size w w' → ∀ (i : Nat) (o : Opx), l[i]? = some o → w'.cell? ⟨b, off + i * 6, none⟩ = some (.string o.s) ∧ w'.cell? ⟨b, off + i * 6 + 1, none⟩ = some (.int .i64 o.d) ∧ w'.cell? ⟨b, off + i * 6 + 2, none⟩ = some (.int .i64 o.a) ∧ w'.cell? ⟨b, off + i * 6 + 3, none⟩ = some (.int .i64 o.b) ∧ w'.cell? ⟨b, off + i * 6 + 4, none⟩ = some (.int .u32 o.i) ∧ w'.cell? ⟨b, off + i * 6 + 5, none⟩ = some (.int .i64 o.t)) := by
    intro w' hw i o hi
    exact op_cells fun k u hk => by rw [hw.cell hbl]; exact hcell i o hi k u hk
  clear hcell HH
  have hlen1 : ((l.length : Int) - 1).toNat = l.length - 1 := by omega
  have hpos' : ¬ (l.length : Int) - 1 < 0 := by omega
  have hpos2 : (l.length : Int) - 1 < l.length := by omega
  have hne0 : ¬ (l.length : Int) = 0 := by omega
  have hio := fun o w' => isOutD_any o w'
  unfold opV at hio
  cases hob : outB lo with
  | false =>
    have HF : Hid (codeF many l = (3, -1)) := by show _ = _; unfold codeF; rw [if_neg hm, if_neg hn8, if_pos (Or.inr (by rw [hlast]; exact hob))]
    have hio := hio lo
    rw [hob] at hio
    clear hm hl2 hn8 hOk hlast hob
    go_enter Tryz.func12, Tryz.ntmps12
    go_upto_region 1 with fail
    generalize w.alloc (.cells #[.int .i64 0, .int .i64 0] 37) = V at *
    have HB0 : Hid (Below w.heap.size w V) := hB0
    have HF0 : Hid (FBox V w.heap.size) := hF0
    have hst' := hst V hB0
    clear hB0 hF0 hst
    go_wp2_with fail
    refine hst'.mono ?_
    rintro e w1 ⟨rfl, hw⟩
    rw [hw]
    clear hw w1 hst'
    obtain ⟨x0, x1, x2, x3, x4, x5⟩ := hlc.out V HB0.out _ _ hlo
    go_wp2_with fail
    refine (hio _).mono ?_
    rintro e w1 ⟨rfl, hb1⟩
    replace HF0 : Hid (FBox w1 w.heap.size) := HF0.out.stays hb1
    replace HB0 : Hid (Below w.heap.size w w1) := HB0.out.trans (hb1.mono HB0.out.size)
    clear hb1 hio x0 x1 x2 x3 x4 x5 hlc hlo
    go_wp2_with fail
    refine (hba 3 _).mono ?_
    rintro e w2 ⟨rfl, hb2⟩
    obtain ⟨⟨u0, z0⟩, ⟨u1, z1⟩, f0, f1⟩ := HF0.out.stays hb2
    have HB2 : Hid (Below w.heap.size w w2) := HB0.out.trans (hb2.mono HB0.out.size)
    have HF2 : Hid (FBox w2 w.heap.size) := HF0.out.stays hb2
    clear hb2 HB0 HF0
    go_wp2
    obtain ⟨q1, q2⟩ := fault_put HB2.out HF2.out 3 (-1)
    refine bodyPost_ret (results_one_cell (A := ⟨w.heap.size, 0, none⟩) rfl _ _ _ rfl q1) rfl ?_
    exact ⟨by rw [HF.out], q2⟩
  | true =>
    have HF : Hid (codeF many l = opsF many 0 0 l) := by
      show _ = _; unfold codeF; rw [if_neg hm, if_neg hn8, if_neg (by rw [hlast]; simp [hob, hnil])]
    have hio2 := hio lo
    rw [hob] at hio2
    clear hm hl2 hn8 hlast hob hba hs8
    go_enter Tryz.func12, Tryz.ntmps12
    go_upto_region 1 with fail
    generalize w.alloc (.cells #[.int .i64 0, .int .i64 0] 37) = V at *
    have HB0 : Hid (Below w.heap.size w V) := hB0
    have HF0 : Hid (FBox V w.heap.size) := hF0
    have hst' := hst V hB0
    clear hB0 hF0 hst
    go_wp2_with fail
    refine hst'.mono ?_
    rintro e w1 ⟨rfl, hw⟩
    rw [hw]
    clear hw w1 hst'
    obtain ⟨x0, x1, x2, x3, x4, x5⟩ := hlc.out V HB0.out _ _ hlo
    go_wp2_with fail
    refine (hio2 _).mono ?_
    rintro e w1 ⟨rfl, hb1⟩
    replace HF0 : Hid (FBox w1 w.heap.size) := HF0.out.stays hb1
    replace HB0 : Hid (Below w.heap.size w w1) := HB0.out.trans (hb1.mono HB0.out.size)
    clear hb1 hio2 x0 x1 x2 x3 x4 x5 hlo
    go_wp2
    go_loopw [6] (fun i wr => ∃ (j : Nat) (ah : Int), j ≤ l.length ∧ i = .int .i64 j ∧ (j = 0 → ah = 0) ∧ (∀ x, 0 < j → l[j - 1]? = some x → ah = x.t) ∧ opsF many 0 0 l = opsF many ah j (l.drop j) ∧ Below w.heap.size w wr ∧ FBox wr w.heap.size) (fun i _ => l.length - (intOf i).toNat)
    case atStart => exact ⟨0, 0, Nat.zero_le _, rfl, fun _ => rfl, fun x h _ => absurd h (by omega), rfl, HB0.out, HF0.out⟩
    case round =>
      obtain ⟨j, ah, hj, rfl, hah0, hah, hop, hB, hFb⟩ := hrel
      have HO : Hid (opsF many 0 0 l = opsF many ah j (l.drop j)) := hop
      have HBr : Hid (Below w.heap.size w wr) := hB
      have HFr : Hid (FBox wr w.heap.size) := hFb
      have HA0 : Hid (j = 0 → ah = 0) := hah0
      have HAH : Hid (∀ x, 0 < j → l[j - 1]? = some x → ah = x.t) := hah
      clear hop hB hFb HB0 HF0 hah0 hah
      by_cases hlt : j < l.length
      · obtain ⟨o, ho, hd, hom⟩ : ∃ o, l[j]? = some o ∧ l.drop j = o :: l.drop (j + 1) ∧ o ∈ l := ⟨l[j], List.getElem?_eq_getElem hlt, List.drop_eq_getElem_cons hlt, List.getElem_mem hlt⟩
        have hem : (l.drop (j + 1)).isEmpty = decide (l.length ≤ j + 1) := by rw [Bool.eq_iff_iff, List.isEmpty_iff, List.drop_eq_nil_iff]; simp
        rw [hd] at HO
        have HO2 : Hid (opsF many 0 0 l = if opF o many ah (decide (l.length ≤ j + 1)) ≠ 0 then (opF o many ah (decide (l.length ≤ j + 1)), (j : Int)) else opsF many o.t (j + 1) (l.drop (j + 1))) := by
          show _ = _; rw [HO.out, opsF_cons, hem]
        have HX : Hid (codeF many l = if opF o many ah (decide (l.length ≤ j + 1)) ≠ 0 then (opF o many ah (decide (l.length ≤ j + 1)), (j : Int)) else opsF many o.t (j + 1) (l.drop (j + 1))) := HF.out.trans HO2.out
        clear HO hd hem
        have hoK : o.ok := hOk.out _ hom
        have hcl := fun W hW => hlc.out W hW _ _ ho
        have HCL : Hid (∀ W, Below w.heap.size w W → _) := hcl
        clear hcl
        obtain ⟨x0, x1, x2, x3, x4, x5⟩ := HCL.out wr HBr.out
        have hlt' : (j : Int) < l.length := by omega
        have HNX : Hid (∀ x, 0 < j + 1 → l[j + 1 - 1]? = some x → o.t = x.t) := fun x _ hx => by rw [show j + 1 - 1 = j by omega, ho] at hx; injection hx with hx; rw [hx]
        have hoe := fun w' => opError_any o hoK many w'
        unfold opV at hoe
        have hio3 := hio o
        obtain ⟨oe, hoE⟩ : ∃ x, opE o many = x := ⟨_, rfl⟩
        obtain ⟨ob, hoB⟩ : ∃ x, outB o = x := ⟨_, rfl⟩
        rw [hoE] at hoe
        rw [hoB] at hio3
        have hec := opE_cases o many
        have ht0 : Hid (oe = 0 → 0 ≤ o.t) := by rw [← hoE]; intro h; exact opE_t0 h
        have HPF : Hid (opF o many ah (decide (l.length ≤ j + 1)) = if oe ≠ 0 then oe else if o.t < ah ∨ ob = true ∧ decide (l.length ≤ j + 1) = false then 3 else 0) := by show _ = _; unfold opF; rw [hoE, hoB]
        rw [hoE] at hec
        have HEC : Hid (oe = 0 ∨ oe = 2 ∨ oe = 3 ∨ oe = 4) := hec
        clear ho hOk HF hom hoE hoB hio hec
        go_wp2_with fail
        refine (hoe _).mono ?_
        rintro e w1 ⟨rfl, hb1⟩
        have HF1 : Hid (FBox w1 w.heap.size) := HFr.out.stays hb1
        have HB1 : Hid (Below w.heap.size w w1) := HBr.out.trans (hb1.mono HBr.out.size)
        clear hb1 hoe HFr HBr x0 x1 x2 x3 x4 x5
        obtain ⟨x0, x1, x2, x3, x4, x5⟩ := HCL.out w1 HB1.out
        go_wp2_with fail
        refine (hio3 _).mono ?_
        rintro e w2 ⟨rfl, hb2⟩
        have HF2 : Hid (FBox w2 w.heap.size) := HF1.out.stays hb2
        have HB2 : Hid (Below w.heap.size w w2) := HB1.out.trans (hb2.mono HB1.out.size)
        clear hb2 hio3 HF1 HB1 x0 x1 x2 x3 x4 x5
        obtain ⟨⟨u0, z0⟩, ⟨u1, z1⟩, f0, f1⟩ := HF2.out
        -- the op alone is at fault
        by_cases hE0 : oe = 0
        · subst hE0
          have h00 := ht0.out rfl
          have HPF1 : Hid (opF o many ah (decide (l.length ≤ j + 1)) = if o.t < ah ∨ ob = true ∧ decide (l.length ≤ j + 1) = false then 3 else 0) := by show _ = _; rw [HPF.out, if_neg (by simp)]
          clear HPF ht0 HEC
          by_cases hin : ob = true ∧ j + 1 < l.length
          · obtain ⟨rfl, hjl⟩ := hin
            have HE : Hid (opF o many ah (decide (l.length ≤ j + 1)) = 3) := by show _ = _; rw [HPF1.out, if_pos (Or.inr ⟨rfl, by simp; omega⟩)]
            have hjl' : (j : Int) + 1 < l.length := by omega
            clear HPF1 h00
            go_wp2
            obtain ⟨q1, q2⟩ := fault_put HB2.out HF2.out 3 j
            refine bodyPost_ret (results_one_cell (A := ⟨w.heap.size, 0, none⟩) rfl _ _ _ rfl q1) rfl ?_
            exact ⟨by rw [HX.out, HE.out]; rfl, q2⟩
          · have hin' : ¬ (ob = true ∧ decide (l.length ≤ j + 1) = false) := by
              intro h; exact hin ⟨h.1, by have := h.2; simp at this; omega⟩
            have hlog : (ob && decide ((j : Int) + 1 < l.length)) = false := by
              cases ob <;> simp at hin' ⊢; omega
            by_cases hj0 : j = 0
            · have e0 := HA0.out hj0
              have HE : Hid (opF o many ah (decide (l.length ≤ j + 1)) = 0) := by show _ = _; rw [HPF1.out, if_neg (fun h => h.elim (fun h => by omega) hin')]
              have hj0' : ¬ (0 : Int) < j := by omega
              have HEND : Hid (opsF many 0 0 l = opsF many o.t (j + 1) (l.drop (j + 1))) := by show _ = _; rw [HO2.out, HE.out]; simp
              clear HPF1 HO2 HX HE hin' e0
              subst hj0
              have hlt2 : 0 < l.length := hlt
              have HC : Hid (ob = true → l.length ≤ 1) := fun h => by
                rw [h] at hlog; simp at hlog; omega
              cases ob with
              | false =>
                clear HC
                go_wp2
                go_roundw
                case rel => exact ⟨1, o.t, hlt2, by first | rfl | go_num, fun h => absurd h (by omega), HNX.out, HEND.out, HB2.out, HF2.out⟩
                case measure => simp [intOf]; omega
              | true =>
                clear hlog
                go_wp2
                all_goals first
                | (exfalso; have hC := HC.out rfl; omega)
                | (exfalso; have hC := HC.out; omega)
                | (exfalso; have hC := HC.out; simp at hC; omega)
                | (go_roundw
                   case rel => exact ⟨1, o.t, hlt2, by first | rfl | go_num, fun h => absurd h (by omega), HNX.out, HEND.out, HB2.out, HF2.out⟩
                   case measure => simp [intOf]; omega)
            · obtain ⟨p, hp⟩ : ∃ p, l[j - 1]? = some p := ⟨_, List.getElem?_eq_getElem (by omega)⟩
              have e0 := HAH.out p (by omega) hp
              subst e0
              have hj0' : (0 : Int) < j := by omega
              obtain ⟨_, _, _, _, _, x5⟩ := HCL.out w2 HB2.out
              obtain ⟨_, _, _, _, _, y5⟩ := hlc.out w2 HB2.out _ _ hp
              have hjn : ((j : Int) - 1).toNat = j - 1 := by omega
              have hjn2 : ¬ (j : Int) - 1 < 0 := by omega
              have hjn3 : (j : Int) - 1 < l.length := by omega
              clear hp
              by_cases htp : o.t < p.t
              · have HE : Hid (opF o many p.t (decide (l.length ≤ j + 1)) = 3) := by show _ = _; rw [HPF1.out, if_pos (Or.inl htp)]
                clear HPF1 HO2 hin'
                cases ob
                all_goals
                  go_wp2
                  go_quiet (fail)
                  go_wp2
                  obtain ⟨q1, q2⟩ := fault_put (below_drewN HB2.out nq) (HF2.out.drewN nq) 3 j
                  refine bodyPost_ret (results_one_cell (A := ⟨w.heap.size, 0, none⟩) rfl _ _ _ rfl q1) rfl ?_
                  exact ⟨by rw [HX.out, HE.out]; rfl, q2⟩
              · have HE : Hid (opF o many p.t (decide (l.length ≤ j + 1)) = 0) := by show _ = _; rw [HPF1.out, if_neg (fun h => h.elim (fun h => by omega) hin')]
                have HEND : Hid (opsF many 0 0 l = opsF many o.t (j + 1) (l.drop (j + 1))) := by show _ = _; rw [HO2.out, HE.out]; simp
                clear HPF1 HO2 HX HE hin'
                cases ob
                all_goals
                  go_wp2
                  go_quiet (fail)
                  go_wp2
                  go_roundw
                  case rel => exact ⟨j + 1, o.t, by omega, by go_num, by omega, HNX.out, HEND.out, below_drewN HB2.out nq, HF2.out.drewN nq⟩
                  case measure => simp [intOf]; omega
        · have hp0 : 0 < oe := by have := HEC.out; omega
          have hE0' : (oe == 0) = false := by simpa using hE0
          have HE : Hid (opF o many ah (decide (l.length ≤ j + 1)) = oe) := by show _ = _; rw [HPF.out, if_pos hE0]
          have HNE : Hid (oe ≠ 0) := hE0
          clear HPF HEC ht0 hE0
          go_wp2
          obtain ⟨q1, q2⟩ := fault_put HB2.out HF2.out oe j
          refine bodyPost_ret (results_one_cell (A := ⟨w.heap.size, 0, none⟩) rfl _ _ _ rfl q1) rfl ?_
          exact ⟨by rw [HX.out, HE.out, if_pos HNE.out], q2⟩
      · obtain rfl : j = l.length := by omega
        have hfi := fun w => fine_any w
        have HF3 : Hid (codeF many l = (0, -1)) := by show _ = _; rw [HF.out, HO.out]; simp [opsF]
        clear HO HF hlc hOk hio
        go_wp2_with fail
        refine (hfi _).mono ?_
        rintro e w2 ⟨rfl, hb2⟩
        obtain ⟨⟨u0, z0⟩, ⟨u1, z1⟩, f0, f1⟩ := HFr.out.stays hb2
        have HB2 : Hid (Below w.heap.size w w2) := HBr.out.trans (hb2.mono HBr.out.size)
        have HF2 : Hid (FBox w2 w.heap.size) := HFr.out.stays hb2
        clear hb2
        go_wp2
        obtain ⟨q1, q2⟩ := fault_put HB2.out HF2.out 0 (-1)
        refine bodyPost_ret (results_one_cell (A := ⟨w.heap.size, 0, none⟩) rfl _ _ _ rfl q1) rfl ?_
        exact ⟨by rw [HF3.out], q2⟩
end Go.Proofs.YtjkencgcdlfjhaaGreatDoor
/-
  Package host: write.
-/
namespace Go.Proofs.YtjkencgcdlfjhaaGreatDoor
open Go.RowKit Go.Maps
open Num
set_option linter.unusedVariables false
theorem Moved.trans {w w1 : World} {vi vj vk : Value} (h : Moved w vi vj) (g : Moved w1 vj vk) (hs : w.heap.size ≤ w1.heap.size) : Moved w vi vk := by
  intro k hk
  rcases g k hk with e | e
  · exact h k e
  · exact .inr (by omega)
section
variable {w : World} {base mb stb sb bp bw bh N : Nat} {X : Nat → Int} {p : List Pq} {vi : Value} {m : Nat → Int} {wt ht : Int → Bool}
end
end Go.Proofs.YtjkencgcdlfjhaaGreatDoor
/-
  Package host: Run.
-/
namespace Go.Proofs.YtjkencgcdlfjhaaGreatDoor
open Go.RowKit Go.Maps
open Num
set_option linter.unusedVariables false
theorem Kx.belowB {W0 wr w' : World} {base mb : Nat} {vj : Value} (h : Below base W0 wr) (k : Kx wr w' mb vj) (hmb : base ≤ mb) (hv : ∀ i, vj.ownBlock = some i → base ≤ i) (hs : base ≤ W0.heap.size) : Below base W0 w' :=
  ⟨k.os.trans h.os, k.tape.trans h.tape, k.output.trans h.output, Nat.le_trans h.size k.size, fun i hi => (k.block i (Nat.lt_of_lt_of_le hi (Nat.le_trans hs h.size)) (by omega) (fun e => by have := hv i e; omega)).trans (h.block i hi)⟩
/-- how a plan's run ends -/
def HPost (w : World) (stb sb bp bw bh : Nat) (wt ht : Int → Bool) (S : St) (many : Int) : Oz → Ending → World → Prop
  | .trap t, e, w' => e = .returned (.tuple #[.agg #[.bool true, .int .i64 t], .nilIface]) ∧ Below w.heap.size w w'
  | .fell, e, w' => e = .returned (.tuple #[.agg #[.bool true, .int .i64 0], .nilIface]) ∧ Below w.heap.size w w'
  | .leave M, e, w' => e = .returned (.tuple #[.agg #[.bool false, .int .i64 0], .nilIface]) ∧ StRow w' stb (leftS S M.x M.lv many) ∧ (∃ N', N' ≤ 1000000 ∧ RamIs w' sb bp bw bh N' M.m wt ht) ∧ w.heap.size ≤ w'.heap.size ∧ (∀ k, k < w.heap.size → k ≠ stb → k ≠ bp → k ≠ bh → w'.heap[k]? = w.heap[k]?) ∧ w'.os = w.os ∧ w'.tape = w.tape ∧ w'.output = w.output
theorem begX_u {S : St} (ok : S.ok) : ∀ j, u32 (begX S j) := by
  intro j; unfold begX
  split
  · exact ok.r j
  · split
    · exact ok.hi
    · split
      · exact ok.lo
      · exact ⟨by omega, by omega⟩
section
variable {w : World} {stb sb bp bw bh N : Nat} {m : Nat → Int} {wt ht : Int → Bool}
end
end Go.Proofs.YtjkencgcdlfjhaaGreatDoor
/-
  Package opt: Known; ops that are told.
-/
namespace Go.Proofs.YtjkencgcdlfjhaaGreatDoor
open Go.RowKit Go.Maps
open Num
set_option linter.unusedVariables false
theorem ccheck_ok (pe : Nat → Addr) {w : World} (E : Eg pe w) {v : Value} {l : List Opx} (A : OpsIn w v l) (hl : (l.length : Int) ≤ 1000000) (pc many : Int) (m0 : -9223372036854775808 ≤ many) (m1 : many ≤ 9223372036854775807) (hf : codeF many l = (0, -1)) :
    Calls Tryz.prog 15 #[.agg #[.int .u32 pc, .int .i64 many, v]] w fun e w' => e = .returned .nilIface ∧ Below w.heap.size w w' := by
  refine (check_any pe E A hl pc many m0 m1).mono ?_
  rintro e w' ⟨⟨x, rfl, hC⟩, hb⟩
  rw [hf] at hC
  rcases hC with ⟨_, h⟩ | ⟨h, _⟩
  · exact ⟨by rw [h]; rfl, hb⟩
  · omega
end Go.Proofs.YtjkencgcdlfjhaaGreatDoor
/-
  The closed fact of hosts; nil arguments, errors of Run; coded.
-/
namespace Go.Proofs.YtjkencgcdlfjhaaGreatDoor
open Go.RowKit Go.Maps
open Num
set_option linter.unusedVariables false
theorem set_self {w : World} {g i : Nat} {cs : Array Value} {t : TypeId} {v : Value} (h : w.heap[g]? = some (.cells cs t (0, 0))) (hv : cs[i]? = some v) : w.setCell ⟨g, i, none⟩ v = w := by
  have hc : cs.setIfInBounds i v = cs := by
    apply Array.ext_getElem?
    intro j
    rw [Array.getElem?_setIfInBounds]
    by_cases e : i = j
    · subst e
      have hi : i < cs.size := (Array.getElem?_eq_some_iff.1 hv).1
      simp [hi] at hv ⊢
      exact hv.symm
    · simp [e]
  have hh : (w.setCell ⟨g, i, none⟩ v).heap = w.heap := by
    apply Array.ext_getElem?
    intro k
    by_cases hk : k = g
    · subst hk
      rw [heap_setCell_same w k i cs t v h, h, hc]
    · exact heap_setCell_other _ _ _ _ hk
  show ({ w with heap := (w.setCell ⟨g, i, none⟩ v).heap } : World) = w
  rw [hh]
theorem ram_ltG {w : World} {sb bp bw bh N : Nat} {m : Nat → Int} {wt ht : Int → Bool} (R : RamIs w sb bp bw bh N m wt ht) : sb < w.heap.size ∧ bp < w.heap.size ∧ bw < w.heap.size ∧ bh < w.heap.size :=
  ⟨World.block_lt_of_cell? _ _ R.c0, R.ps.lt, R.ws.lt, R.hs.lt⟩
theorem st_rowG (w : World) (S : St) : StRow (w.alloc (.cells (stA S) 26)) w.heap.size S :=
  ⟨stA S, heap_alloc_new w _, stA_size S, fun j hj => stA_get S hj⟩
/-- the state of the closed fact -/
def hS1 : St := { zS with nx := 4 }
def hS0 : St := { hS1 with r := fun j => if j = 1 then 5 else if j = 2 then 6 else 0 }
def hL : List Opx := [⟨kindS 2, 1, 2, 0, 0, 0⟩, ⟨kindS 2, 2, 1, 0, 0, 0⟩, ⟨kindS 26, 0, 0, 0, 8, 0⟩]
def hX : Nat → Int := setX (setX (begX hS0) 1 6) 2 5
end Go.Proofs.YtjkencgcdlfjhaaGreatDoor
/-
  Errors of host.Run; coded.
-/
namespace Go.Proofs.YtjkencgcdlfjhaaGreatDoor
open Go.RowKit Go.Maps
open Num
set_option linter.unusedVariables false
/-- an error that is one -/
theorem cerr_some {pe : Nat → Addr} {w : World} {f : Int × Int} {x : Value} (C : CErr pe w f x) (hf : f ≠ (0, -1)) : ∃ t a, x = .iface t (.pointer (some a)) := by
  rcases C with ⟨h1, h2⟩ | ⟨h1, h2, fb, h3, _⟩
  · have : f.1 ≠ 0 := by
      intro h
      apply hf
      obtain ⟨a, b⟩ := f
      simp only at h h1
      rw [h, h1]
    rw [erV_some this] at h2
    exact ⟨_, _, h2⟩
  · exact ⟨_, _, h3⟩
theorem CErr.staysH {pe : Nat → Addr} {w w' : World} {f : Int × Int} {v : Value} (C : CErr pe w f v) (h : Below w.heap.size w w') : CErr pe w' f v := by
  rcases C with h1 | ⟨h1, h2, fb, h3, h4, h5⟩
  · exact .inl h1
  · exact .inr ⟨h1, h2, fb, h3, (h.cell (World.block_lt_of_cell? _ _ h4)).trans h4, (h.cell (World.block_lt_of_cell? _ _ h5)).trans h5⟩
set_option maxRecDepth 100000 in
set_option maxHeartbeats 2000000 in
theorem coded_any (S : Nat → Addr) {w : World} (EE : Errs S w) (n : Nat) (h1 : 1 ≤ n) (h2 : n ≤ 10) :
    Calls Tryz.prog 17 #[.iface 311 (.pointer (some (peS S n))), .int .i64 n] w fun e w' => e = .returned (.bool true) ∧ Below w.heap.size w w' := by
  have hcb := code_bare S (S (n - 1)) (n - 1) _ EE (.inl ⟨by omega, rfl⟩) (EE.row (n - 1) (by omega))
  rw [num_is n h1 h2] at hcb
  unfold peS
  clear EE
  generalize S (n - 1) = ad at *
  have hnn : ((n : Int) == (n : Int)) = true := by simp
  go_enter Tryz.func17, Tryz.ntmps17
  go_wp2_with fail
  refine hcb.mono ?_
  rintro e w1 ⟨rfl, hb⟩
  go_wp2
  go_ret
  exact ⟨rfl, hb⟩
section
variable {w : World}
end
end Go.Proofs.YtjkencgcdlfjhaaGreatDoor
/-
  A plan's run as the document has it.
-/
namespace Go.Proofs.YtjkencgcdlfjhaaGreatDoor
open Go.RowKit Go.Maps
open Num
set_option linter.unusedVariables false
def ozA : Oz → Int
  | .trap t => t
  | _ => 0
def ozF : Oz → Bool
  | .fell => true
  | _ => false
theorem runT_any {w : World} {rb gb kb hb : Nat} {m : Nat → Int} {wt ht : Int → Bool} (D : DMem w rb gb kb hb m wt ht) (sb : Nat) (S : St) (hS : StRow w sb S) (ok : S.ok) (c0 : 0 ≤ S.ct) (c1 : S.ct ≤ 1099511627776) (hsr : sb ≠ rb) (hsg : gb ≠ sb) {v : Value} {rs : List (List Opx)} (R : RowsI w v rs) (F : Few rs) (many : Int) (m0 : 1 ≤ many) (m1 : many ≤ 24) (hw : ∀ row ∈ rs, ∀ o ∈ row, opE o many = 0) :
    Calls Tryz.prog 40 #[v, .int .i64 many, .pointer (some ⟨sb, 0, none⟩), .pointer (some ⟨rb, 0, none⟩)] w fun e w' => e = .returned (.agg #[.bool (ozT (runZ wt rs (nwX (rgS S) 34) m)), .int .i64 (ozA (runZ wt rs (nwX (rgS S) 34) m)), .bool (ozF (runZ wt rs (nwX (rgS S) 34) m))]) ∧ Rn w w' sb rb gb (ozS S many (runZ wt rs (nwX (rgS S) 34) m)) (ozM m (runZ wt rs (nwX (rgS S) 34) m)) := by
  refine (runOf_any D sb (stV S) hS (rgS S) (rgS_v S) (rgS_bd ok) S.ct S.pc S.nx rfl rfl rfl c0 c1 hsr R F many m0 m1 hw).mono ?_
  intro e w' h
  have hsb := hS.lt
  have hg := D.d.lt (.inr (.inl rfl))
  cases hz : runZ wt rs (nwX (rgS S) 34) m with
  | trap t =>
    rw [hz] at h
    obtain ⟨rfl, hb⟩ := h
    exact ⟨rfl, ⟨hS.stays hb, ⟨gb, (D.d.stays hb).c0, .inl rfl, fun i hi => (D.d.stays hb).cell i hi⟩, fun k hk _ _ => hb.block k hk, hb.size, hb.os, hb.tape, hb.output⟩⟩
  | fell =>
    rw [hz] at h
    obtain ⟨rfl, hb⟩ := h
    exact ⟨rfl, ⟨hS.stays hb, ⟨gb, (D.d.stays hb).c0, .inl rfl, fun i hi => (D.d.stays hb).cell i hi⟩, fun k hk _ _ => hb.block k hk, hb.size, hb.os, hb.tape, hb.output⟩⟩
  | leave M =>
    rw [hz] at h
    obtain ⟨rfl, h1, ⟨gb', h2, h3, h4⟩, h5, h6, h7, h8, h9⟩ := h
    exact ⟨rfl, ⟨RowIs.congrP h1 (stF_st S M many), ⟨gb', h2, .inr h3, h4⟩, h5, h6, h7, h8, h9⟩⟩
theorem rowZ_x0 {wt : Int → Bool} {x m : Nat → Int} {many : Int} : ∀ (row : List Opx) (M : Mz), (∀ o ∈ row, opE o many = 0) → (row.foldl (fun M o => appZ M o (resZ wt x m o)) M).x 0 = M.x 0
  | [], M, _ => rfl
  | o :: row, M, h => by
    have e := rowZ_x0 (wt := wt) (x := x) (m := m) row (appZ M o (resZ wt x m o)) (fun q hq => h q (by simp [hq]))
    show (row.foldl (fun M o => appZ M o (resZ wt x m o)) (appZ M o (resZ wt x m o))).x 0 = M.x 0
    rw [e]
    show (if 0 < wrX o then setX M.x (wrX o) (resZ wt x m o).v else M.x) 0 = M.x 0
    split
    · rename_i hw
      unfold setX
      rw [if_neg (by omega)]
    · rfl
theorem runZ_x0 {wt : Int → Bool} {many : Int} : ∀ (rs : List (List Opx)) (x m : Nat → Int) (M : Mz), (∀ r ∈ rs, ∀ o ∈ r, opE o many = 0) → runZ wt rs x m = .leave M → M.x 0 = x 0
  | [], x, m, M, _, h => by cases h
  | r :: rs, x, m, M, hw, h => by
    rw [runZ_cons] at h
    cases ht : trapZ wt x m r with
    | some t => rw [ht] at h; cases h
    | none =>
      rw [ht] at h
      simp only at h
      have hx := rowZ_x0 (wt := wt) (x := x) (m := m) r ⟨x, m, -1⟩ (hw r (by simp))
      by_cases hlv : (rowZ wt x m r).lv < 0
      · rw [if_pos hlv] at h
        have := runZ_x0 rs _ _ M (fun q hq => hw q (by simp [hq])) h
        rw [this]; exact hx
      · rw [if_neg hlv] at h
        injection h with h
        rw [← h]; exact hx
theorem begX_nw {T : St} (h0 : T.r 0 = 0) : begX T = nwX (rgS T) 34 := by
  funext j
  unfold begX nwX rgS
  by_cases e0 : j = 0
  · subst e0; rw [if_pos (by omega), if_neg (by omega)]; exact h0
  · by_cases h : j < 34
    · rw [if_pos (show 1 ≤ j ∧ j < 34 by omega)]
      by_cases h2 : j < 32
      · rw [if_pos h2, if_pos h2]
      · rw [if_neg h2, if_neg h2]
        by_cases h3 : j = 32
        · rw [if_pos h3, if_pos h3]
        · rw [if_neg h3, if_neg h3, if_pos (by omega)]
    · rw [if_neg (show ¬ (1 ≤ j ∧ j < 34) by omega), if_neg (by omega), if_neg (by omega), if_neg (by omega)]
theorem left_same {S : St} {M : Mz} {many : Int} (h : M.x 0 = S.r 0) : ∀ j, j < 43 → stV (leftS S M.x M.lv many) j = stV (lfS S M many) j := by
  intro j hj
  by_cases h32 : j < 32
  · unfold stV leftS lfS
    rw [if_pos h32, if_pos h32]
    show Value.int .u32 (M.x j) = Value.int .u32 (if 1 ≤ j then M.x j else S.r j)
    by_cases e : 1 ≤ j
    · rw [if_pos e]
    · rw [if_neg e, show j = 0 by omega, h]
  · have hc : j = 32 ∨ j = 33 ∨ j = 34 ∨ j = 35 ∨ j = 36 ∨ j = 37 ∨ j = 38 ∨ j = 39 ∨ j = 40 ∨ j = 41 ∨ j = 42 := by omega
    rcases hc with rfl | rfl | rfl | rfl | rfl | rfl | rfl | rfl | rfl | rfl | rfl <;> rfl
/-- what a run of the program's leaves behind -/
structure HOut (w w' : World) (stb sb bp bw bh : Nat) (wt ht : Int → Bool) (F : St) (M : Nat → Int) : Prop where
  st : StRow w' stb F
  rm : ∃ N', RamIs w' sb bp bw bh N' M wt ht
  sz : w.heap.size ≤ w'.heap.size
  bk : ∀ k, k < w.heap.size → k ≠ stb → k ≠ bp → k ≠ bh → w'.heap[k]? = w.heap[k]?
  os : w'.os = w.os
  tape : w'.tape = w.tape
  output : w'.output = w.output
theorem HOut.of_below {w w' : World} {stb sb bp bw bh N : Nat} {wt ht : Int → Bool} {F : St} {M : Nat → Int} (hS : StRow w stb F) (R : RamIs w sb bp bw bh N M wt ht) (h : Below w.heap.size w w') : HOut w w' stb sb bp bw bh wt ht F M :=
  ⟨hS.stays h, ⟨N, R.stays h (Nat.le_refl _)⟩, h.size, fun k hk _ _ _ => h.block k hk, h.os, h.tape, h.output⟩
theorem HOut.below {w w' wz : World} {stb sb bp bw bh : Nat} {wt ht : Int → Bool} {F : St} {M : Nat → Int} (R : HOut w w' stb sb bp bw bh wt ht F M) (h : Below wz.heap.size wz w) (h1 : wz.heap.size ≤ stb) (h2 : wz.heap.size ≤ bp) (h3 : wz.heap.size ≤ bh) : Below wz.heap.size wz w' :=
  ⟨R.os.trans h.os, R.tape.trans h.tape, R.output.trans h.output, Nat.le_trans h.size R.sz, fun k hk => (R.bk k (Nat.lt_of_lt_of_le hk h.size) (by omega) (by omega) (by omega)).trans (h.block k hk)⟩
end Go.Proofs.YtjkencgcdlfjhaaGreatDoor
/-
  What OptEnds's walk wants of the pure side.
-/
namespace Go.Proofs.YtjkencgcdlfjhaaGreatDoor
open Go.RowKit Go.Maps
open Num
set_option linter.unusedVariables false
theorem RowsIn.rowsI {w : World} {v : Value} {ll : List (List Opx)} (R : RowsIn w v ll) : RowsI w v ll := by
  obtain ⟨ao, cap, e, hc, hh⟩ := R.sh
  exact ⟨ao, cap, e, hc, fun hp => let ⟨b, eb, hcl⟩ := hh hp; ⟨b, 0, eb, fun i row hi => let ⟨u, hu, hO⟩ := hcl i row hi; ⟨u, by rw [Nat.zero_add]; exact hu, hO⟩⟩⟩
theorem few_each {l : List Opx} (h : l.length ≤ 1000) : Few (eachL l) := by
  refine ⟨by unfold eachL; rw [List.length_map]; exact h, fun r hr => ?_⟩
  unfold eachL at hr
  obtain ⟨o, _, rfl⟩ := List.mem_map.1 hr
  simp
theorem opsF_v (many : Int) : ∀ (l : List Opx) (ah : Int) (n : Nat), opsF many ah n l = (0, -1) ∨ (1 ≤ (opsF many ah n l).1 ∧ (opsF many ah n l).1 ≤ 10)
  | [], _, _ => .inl rfl
  | o :: l, ah, n => by
    rw [opsF_cons]
    by_cases h0 : opF o many ah l.isEmpty ≠ 0
    · rw [if_pos h0]
      refine .inr ?_
      show 1 ≤ opF o many ah l.isEmpty ∧ opF o many ah l.isEmpty ≤ 10
      have hc := opE_cases o many
      unfold opF at h0 ⊢
      split at h0 <;> rename_i h1
      · rw [if_pos h1]; omega
      · rw [if_neg h1]
        split at h0 <;> rename_i h2
        · rw [if_pos h2]; omega
        · exact absurd rfl h0
    · rw [if_neg h0]; exact opsF_v many l _ _
theorem codeF_v (many : Int) (l : List Opx) : codeF many l = (0, -1) ∨ (1 ≤ (codeF many l).1 ∧ (codeF many l).1 ≤ 10) := by
  unfold codeF
  split
  · right; simp
  · split
    · right; simp
    · split
      · right; simp
      · exact opsF_v _ _ _ _
theorem codeF_pos {many : Int} {l : List Opx} (h : codeF many l ≠ (0, -1)) : 1 ≤ (codeF many l).1 := ((codeF_v many l).resolve_left h).1
end Go.Proofs.YtjkencgcdlfjhaaGreatDoor
/-
  What HostRuns' walk wants.
-/
namespace Go.Proofs.YtjkencgcdlfjhaaGreatDoor
open Go.RowKit Go.Maps
open Num
set_option linter.unusedVariables false
theorem CBox.blockH {W W' : World} {b : Nat} {pc many : Int} {v : Value} (C : CBox W b pc many v) (h : W'.heap[b]? = W.heap[b]?) : CBox W' b pc many v :=
  ⟨(World.cell?_of_block (a := ⟨b, 0, none⟩) h).trans C.k0, (World.cell?_of_block (a := ⟨b, 1, none⟩) h).trans C.k1, (World.cell?_of_block (a := ⟨b, 2, none⟩) h).trans C.k2⟩
theorem FBx.blockH {W W' : World} {b : Nat} {x y : Int} (C : FBx W b x y) (h : W'.heap[b]? = W.heap[b]?) : FBx W' b x y :=
  ⟨(World.cell?_of_block (a := ⟨b, 0, none⟩) h).trans C.k0, (World.cell?_of_block (a := ⟨b, 1, none⟩) h).trans C.k1, fun j => (World.frozen?_of_block (a := ⟨b, j, none⟩) h).trans (C.fz j)⟩
theorem HOut.belowB {w w' wz : World} {b stb sb bp bw bh : Nat} {wt ht : Int → Bool} {F : St} {M : Nat → Int} (R : HOut w w' stb sb bp bw bh wt ht F M) (h : Below b wz w) (hb : b ≤ w.heap.size) (h1 : b ≤ stb) (h2 : b ≤ bp) (h3 : b ≤ bh) : Below b wz w' :=
  ⟨R.os.trans h.os, R.tape.trans h.tape, R.output.trans h.output, Nat.le_trans h.size R.sz, fun k hk => (R.bk k (by omega) (by omega) (by omega) (by omega)).trans (h.block k hk)⟩
/-- what the last region reads -/
structure Ck28 (W : World) (eb wb s1 s2 rb gc : Nat) (t : Bool) (a : Int) (F G : St) : Prop where
  a0 : W.cell? ⟨eb, 0, none⟩ = some (.bool t)
  a1 : W.cell? ⟨eb, 1, none⟩ = some (.int .i64 a)
  b0 : W.cell? ⟨wb, 0, none⟩ = some (.bool t)
  b1 : W.cell? ⟨wb, 1, none⟩ = some (.int .i64 a)
  d : W.cell? ⟨rb, 0, none⟩ = some (.slice (some ⟨gc, 0, none⟩) 4096 4096)
  x : StAt W s1 F
  y : StAt W s2 G
theorem Ck28.stays {W W' : World} {eb wb s1 s2 rb gc : Nat} {t : Bool} {a : Int} {F G : St} (C : Ck28 W eb wb s1 s2 rb gc t a F G) (h : Below W.heap.size W W') : Ck28 W' eb wb s1 s2 rb gc t a F G :=
  have c : ∀ (b j : Nat) (u : Value), W.cell? ⟨b, j, none⟩ = some u → W'.cell? ⟨b, j, none⟩ = some u := fun b j u e => (h.cell (p := ⟨b, j, none⟩) (World.block_lt_of_cell? W ⟨b, j, none⟩ e)).trans e
  ⟨c _ _ _ C.a0, c _ _ _ C.a1, c _ _ _ C.b0, c _ _ _ C.b1, c _ _ _ C.d, C.x.stays h, C.y.stays h⟩
theorem Ck28.drew {W : World} {eb wb s1 s2 rb gc : Nat} {t : Bool} {a : Int} {F G : St} (C : Ck28 W eb wb s1 s2 rb gc t a F G) : Ck28 W.drew eb wb s1 s2 rb gc t a F G := ⟨C.a0, C.a1, C.b0, C.b1, C.d, C.x.drew, C.y.drew⟩
end Go.Proofs.YtjkencgcdlfjhaaGreatDoor
