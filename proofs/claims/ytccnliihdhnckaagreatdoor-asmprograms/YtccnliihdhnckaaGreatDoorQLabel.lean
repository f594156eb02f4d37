/-
  A line that is a label.
-/
import Derived.StillTailTactics
import Derived.StringKeys
import Derived.Test.YtccnliihdhnckaaGreatDoorKLineNo
namespace Go.Proofs.YtccnliihdhnckaaGreatDoor
open Go.RowKit Go.Shelf Go.Joins Go.Maps
open Num Tab Fm Txt
set_option linter.unusedVariables false
theorem drew_lit (W : World) : ({ heap := W.heap, tape := W.tape, drawn := W.drawn + 1, os := W.os, output := W.output } : World) = W.drew := rfl
theorem key9 (s : List UInt8) (h : s.length ≤ 1000) : keyOf Tryz.prog 9 (.string ⟨s.toArray⟩) = some (.string s) :=
  Go.WideMaps.keyOf_string_mk Tryz.underlying9 (by simp [ByteArray.size, maxLen]; omega)
theorem LabelsAt.stays {w w' : World} {b N : Nat} {g : List UInt8 → Option Int} (h : LabelsAt w b N g) (hb : Below w.heap.size w w') : LabelsAt w' b N g :=
  h.kept (row := none) ⟨hb.os, hb.tape, hb.output, hb.size, fun k hk _ => hb.block k hk⟩ (by simp)
section
variable {w : World} {base sb lb : Nat} {org : Int} {ps : List Pt} {vp : Value}
set_option maxRecDepth 100000 in
set_option maxHeartbeats 1000000 in
theorem label_ok (S : SrcIs w base sb lb org ps vp) {N : Nat} {g : List UInt8 → Option Int} (L : LabelsAt w lb N g) (hN : N < maxLen) (hp : ps.length ≤ 10000) (s : List UInt8) (hl : s.length ≤ 1000) (hn : isNm s = true) (hg : g s = none) :
    Calls Tryz.prog 74 #[.pointer (some ⟨sb, 0, none⟩), .string ⟨s.toArray⟩] w fun e w' => e = .returned .nilIface ∧ SrcIs w' base sb lb org ps vp ∧ LabelsAt w' lb (N + 1) (fun t => if t = s then some (ps.length : Int) else g t) ∧ ∃ w1, Below w.heap.size w w1 ∧ w1.grownBy w' (some lb) := by
  have hin := isName_any s hl w
  rw [hn] at hin
  have hk := key9 s hl
  have SH : Hid (SrcIs w base sb lb org ps vp) := S
  have LH : Hid (LabelsAt w lb N g) := L
  obtain ⟨aop, cap, hv⟩ : ∃ ao cap, vp = .slice ao ps.length cap := by
    rcases S.rp.2 with ⟨e, h⟩ | ⟨g, cap, cur, e, _⟩
    · exact ⟨none, 0, by rw [e, h]⟩
    · exact ⟨_, cap, e⟩
  subst hv
  clear S L hn
  go_enter Tryz.func74, Tryz.ntmps74
  go_wp2_with fail
  refine hin.mono ?_
  rintro e w1 ⟨rfl, hb1⟩
  clear hin
  have S1 : Hid (SrcIs w1 base sb lb org ps (.slice aop ps.length cap)) := SH.out.stays hb1
  have L1 : Hid (LabelsAt w1 lb N g) := LH.out.stays hb1
  have HB1 : Hid (Below w.heap.size w w1) := hb1
  have c1 := S1.out.c1
  have c2 := S1.out.c2
  have hlook := L1.out.look s hk
  rw [hg] at hlook
  clear SH LH hb1
  go_wp2_with fail
  refine wp_region_still_tail 10 (by kernel_rfl) (by kernel_rfl) ?_
  simp only [List.take_succ_cons, List.take_zero, List.drop_succ_cons, List.drop_zero, drew_lit]
  iterate 10 still_step
  refine wpStill_nil ?_
  obtain ⟨D, hE1, hD2⟩ := L1.out
  have hD1 : w1.drew.ownsMap Tryz.prog 9 heldE lb N D := hE1
  refine wpList_mapUpdate_own _ rfl _ _ _ 84 rfl 9 3 law9 Tryz.underlying84 heldE lb N D rfl hD1 hN _ _ _ rfl rfl hk _ [] rfl ?_
  intro w2 hown2 hg2
  have G2 : Hid (w1.grownBy w2 (some lb)) := ⟨hg2.os, hg2.tape, hg2.output, hg2.size, hg2.block⟩
  have L2 : Hid (LabelsAt w2 lb (N + 1) (fun t => if t = s then some (ps.length : Int) else g t)) := LabelsAt.put hD2 hE1.isMap s _ (by trivial) hown2
  clear hD1 hown2 hg2 hE1 hD2
  go_wp2
  go_ret
  refine ⟨rfl, S1.out.blocks G2.out.size fun k hk => ?_, L2.out, w1, HB1.out, G2.out⟩
  have h1 := S1.out.ll
  have h2 := S1.out.nl
  rcases hk with rfl | hk
  · exact G2.out.block _ (by have := S1.out.ls; have := S1.out.bs; omega) (by simp [h2])
  · have := S1.out.rp.lt k hk
    exact G2.out.block k this.2 (by simp; omega)
end
end Go.Proofs.YtccnliihdhnckaaGreatDoor
