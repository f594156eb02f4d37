/-
  A line is added, whatever it is.
-/
import Derived.Test.YtccnliihdhnckaaGreatDoorAsmP
namespace Go.Proofs.YtccnliihdhnckaaGreatDoor
open Go.RowKit Go.Shelf Go.Joins Go.Maps
open Num Tab Fm Txt
set_option linter.unusedVariables false
section
variable {w : World} {base sb lb : Nat} {org : Int} {ps : List Pt} {vp : Value}
set_option maxRecDepth 100000 in
set_option maxHeartbeats 1000000 in
theorem label_noName (E : Nat → Addr) (EE : Er9 E w) (p : Value) (s : List UInt8) (hl : s.length ≤ 1000) (hn : isNm s = false) :
    Calls Tryz.prog 74 #[p, .string ⟨s.toArray⟩] w fun e w' => e = .returned (.iface 210 (.pointer (some (E 0)))) ∧ Below w.heap.size w w' := by
  have hin := isName_any s hl w
  rw [hn] at hin
  have HE : Hid (Er9 E w) := EE
  clear EE hn
  go_enter Tryz.func74, Tryz.ntmps74
  go_wp2_with fail
  refine hin.mono ?_
  rintro e w1 ⟨rfl, hb1⟩
  clear hin
  have c0 := (HE.out.stays hb1).c0
  go_wp2
  go_ret
  exact ⟨rfl, hb1⟩
set_option maxRecDepth 100000 in
set_option maxHeartbeats 1000000 in
theorem label_twice (E : Nat → Addr) (EE : Er9 E w) (S : SrcIs w base sb lb org ps vp) {N : Nat} {g : List UInt8 → Option Int} (L : LabelsAt w lb N g) (s : List UInt8) (hl : s.length ≤ 1000) (hn : isNm s = true) (hg : (g s).isSome = true) :
    Calls Tryz.prog 74 #[.pointer (some ⟨sb, 0, none⟩), .string ⟨s.toArray⟩] w fun e w' => e = .returned (.iface 210 (.pointer (some (E 6)))) ∧ Below w.heap.size w w' := by
  have hin := isName_any s hl w
  rw [hn] at hin
  have hk := key9 s hl
  have HE : Hid (Er9 E w) := EE
  have SH : Hid (SrcIs w base sb lb org ps vp) := S
  have LH : Hid (LabelsAt w lb N g) := L
  clear S L hn EE
  go_enter Tryz.func74, Tryz.ntmps74
  go_wp2_with fail
  refine hin.mono ?_
  rintro e w1 ⟨rfl, hb1⟩
  clear hin
  have c1 := (SH.out.stays hb1).c1
  have c6 := (HE.out.stays hb1).c6
  have hlook := (LH.out.stays hb1).look s hk
  rw [hg] at hlook
  generalize (g s).getD 0 = v at hlook
  clear SH LH HE
  go_wp2
  go_ret
  exact ⟨rfl, hb1⟩
/-- what add answers -/
def AddOut (E : Nat → Addr) (B base sb lb : Nat) (org : Int) (N : Nat) (w : World) (e : Ending) (w' : World) : Except Nat (List Pt × Lbs) → Prop
  | .error j => e = .returned (.iface 210 (.pointer (some (E j)))) ∧ Below B w w'
  | .ok r => e = .returned .nilIface ∧ ∃ vp', SrcIs w' base sb lb org r.1 vp' ∧ LabelsAt w' lb (N + 1) r.2 ∧ Below B w w'
theorem below_turned {B : Nat} {w w1 w' : World} (h1 : Below w.heap.size w w1) (h2 : STurned w1 w' sb vp) (hB : B ≤ w.heap.size) (hs : B ≤ sb) (hv : ∀ k, vp.ownBlock = some k → B ≤ k) : Below B w w' :=
  ⟨h2.os.trans h1.os, h2.tape.trans h1.tape, h2.output.trans h1.output, Nat.le_trans h1.size h2.size, fun k hk => (h2.block k (by have := h1.size; omega) (by omega) (fun e => by have := hv k e; omega)).trans (h1.block k (by omega))⟩
theorem LabelsAt.same {N : Nat} {g : Lbs} {w' : World} (L : LabelsAt w lb N g) (h : w'.heap[lb]? = w.heap[lb]?) : LabelsAt w' lb N g := by
  obtain ⟨D, ⟨es, clock, hb, F, hs, hD⟩, h3⟩ := L
  exact ⟨D, ⟨es, clock, h.trans hb, F, hs, hD⟩, h3⟩
theorem labels_turned {N : Nat} {g : Lbs} {w1 w' : World} (L : LabelsAt w lb N g) (h1 : Below w.heap.size w w1) (h2 : STurned w1 w' sb vp) (hn : lb ≠ sb) (hv : vp.ownBlock ≠ some lb) : LabelsAt w' lb N g :=
  L.same ((h2.block lb (by have := L.lt; have := h1.size; omega) hn hv).trans (h1.block lb L.lt))
theorem below_grow {B : Nat} {w w1 w' : World} (h1 : Below w.heap.size w w1) (h2 : w1.grownBy w' (some lb)) (hB : B ≤ w.heap.size) (hl : B ≤ lb) : Below B w w' :=
  ⟨h2.os.trans h1.os, h2.tape.trans h1.tape, h2.output.trans h1.output, Nat.le_trans h1.size h2.size, fun k hk => (h2.block k (by have := h1.size; omega) (by simp; omega)).trans (h1.block k (by omega))⟩
theorem trimS_len (l p : List UInt8) : (Lib.trimSuffix l p).length ≤ l.length := by
  unfold Lib.trimSuffix; split <;> simp
theorem add_all (E : Nat → Addr) (EE : Er9 E w) (S : SrcIs w base sb lb org ps vp) (b : Lb w) {N : Nat} {g : Lbs} (L : LabelsAt w lb N g) (hN : N < 1000) {B : Nat} (hB : B ≤ w.heap.size) (hs : B ≤ sb) (hlb : B ≤ lb) (hbb : B ≤ base) (at_ : Int) (l : List UInt8) (hl : l.length ≤ 1000) (hp : ps.length ≤ 10000) :
    Calls Tryz.prog 43 #[.pointer (some ⟨sb, 0, none⟩), .int .i64 at_, .string ⟨l.toArray⟩] w fun e w' => AddOut E B base sb lb org N w e w' (addP at_ l ps g) := by
  have hvb : ∀ k, vp.ownBlock = some k → B ≤ k := fun k e => by have := (S.rp.lt k e).1; omega
  have hvl : vp.ownBlock ≠ some lb := fun e => by have := (S.rp.lt lb e).1; have := S.ll; omega
  have no : ∀ j, addP at_ l ps g = .error j → (Calls Tryz.prog 43 #[.pointer (some ⟨sb, 0, none⟩), .int .i64 at_, .string ⟨l.toArray⟩] w fun e w' => e = .returned (.iface 210 (.pointer (some (E j)))) ∧ Below w.heap.size w w') → Calls Tryz.prog 43 #[.pointer (some ⟨sb, 0, none⟩), .int .i64 at_, .string ⟨l.toArray⟩] w fun e w' => AddOut E B base sb lb org N w e w' (addP at_ l ps g) := by
    intro j hj hc
    rw [hj]
    exact hc.mono fun e w' h => ⟨h.1, h.2.mono hB⟩
  by_cases h1 : Lib.hasPrefix l [46, 119, 111, 114, 100] = true
  · cases hw : wordS l with
    | none =>
      exact no 0 (by unfold addP; rw [if_pos h1, hw]) (add_word at_ l h1 (plain_no E EE _ b at_ l hl hw))
    | some n =>
      have ha : addP at_ l ps g = .ok (ps ++ [⟨at_, n, 0, ⟨0, 0, 0, 0⟩, []⟩], g) := by unfold addP; rw [if_pos h1, hw]
      rw [ha]
      refine (add_word at_ l h1 (plain_ok S b at_ l hl hp n hw)).mono ?_
      rintro e w' ⟨rfl, vp', S', ⟨w1, hb1, ht⟩, hm⟩
      exact ⟨rfl, vp', S', (labels_turned L hb1 ht S.nl.symm hvl).mono (by omega), below_turned hb1 ht hB hs hvb⟩
  · have h1' : Lib.hasPrefix l [46, 119, 111, 114, 100] = false := by simpa using h1
    by_cases h2 : Lib.hasSuffix l [58] = true
    · have htl := trimS_len l [58]
      by_cases h3 : isNm (Lib.trimSuffix l [58]) = true
      · by_cases h4 : (g (Lib.trimSuffix l [58])).isSome = true
        · exact no 6 (by unfold addP; rw [if_neg h1, if_pos h2, if_pos h3, if_pos h4]) (add_label at_ l hl h1' h2 (label_twice E EE S L _ (by omega) h3 h4))
        · have ha : addP at_ l ps g = .ok (ps, lPut g (Lib.trimSuffix l [58]) ps.length) := by unfold addP; rw [if_neg h1, if_pos h2, if_pos h3, if_neg h4]
          rw [ha]
          have hc := label_ok S L (by unfold maxLen; omega) hp (Lib.trimSuffix l [58]) (by omega) h3 (by simpa using h4)
          refine (add_label at_ l hl h1' h2 hc).mono ?_
          rintro e w' ⟨rfl, S', L', w1, hb1, hg⟩
          exact ⟨rfl, vp, S', L', below_grow hb1 hg hB hlb⟩
      · exact no 0 (by unfold addP; rw [if_neg h1, if_pos h2, if_neg h3]) (add_label at_ l hl h1' h2 (label_noName E EE _ _ (by omega) (by simpa using h3)))
    · have h2' : Lib.hasSuffix l [58] = false := by simpa using h2
      have err : ∀ j, prE (parseS (cutT l)) = j → j < 10 → addP at_ l ps g = .error j → Calls Tryz.prog 43 #[.pointer (some ⟨sb, 0, none⟩), .int .i64 at_, .string ⟨l.toArray⟩] w fun e w' => AddOut E B base sb lb org N w e w' (addP at_ l ps g) := fun j hj hn ha =>
        no j ha (add_instr at_ l hl h1' h2' (instr_no E EE _ b at_ l hl j hj hn))
      cases hw : parseS (cutT l) with
      | name => exact err 4 (by rw [hw]; rfl) (by omega) (by unfold addP; rw [if_neg h1, if_neg h2, hw])
      | text => exact err 0 (by rw [hw]; rfl) (by omega) (by unfold addP; rw [if_neg h1, if_neg h2, hw])
      | bound => exact err 1 (by rw [hw]; rfl) (by omega) (by unfold addP; rw [if_neg h1, if_neg h2, hw])
      | ok k f =>
        have ha : addP at_ l ps g = .ok (ps ++ [⟨at_, 0, k, f, cutN l⟩], g) := by unfold addP; rw [if_neg h1, if_neg h2, hw]
        rw [ha]
        refine (add_instr at_ l hl h1' h2' (instr_ok E EE S b at_ l hl hp k f hw)).mono ?_
        rintro e w' ⟨rfl, vp', S', ⟨w1, hb1, ht⟩, hm⟩
        exact ⟨rfl, vp', S', (labels_turned L hb1 ht S.nl.symm hvl).mono (by omega), below_turned hb1 ht hB hs hvb⟩
end
end Go.Proofs.YtccnliihdhnckaaGreatDoor
