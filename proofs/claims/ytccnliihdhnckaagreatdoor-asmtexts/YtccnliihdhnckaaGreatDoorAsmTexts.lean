/-
  The call AsmTexts(i, s) returns true, for every instruction and every text: the text of an instruction is the document's, and is read again; what Parse answers at any text is the document's answer; the arguments read behind the call as before. Condition: the ten errors of package api, package errors' handle of the type error, two errors of package strconv, the tables of package code and of package asm, and five tables of Go's library hold what the program's own text lays there (the card ties that).
-/
import Derived.Test.YtccnliihdhnckaaGreatDoorParseOf
import Derived.Test.YtccnliihdhnckaaGreatDoorTW2
import Derived.Test.YtccnliihdhnckaaGreatDoorLay
import Derived.Test.YtccnliihdhnckaaGreatDoorIns
import Derived.Test.YtccnliihdhnckaaGreatDoorTie
import Derived.Test.YtccnliihdhnckaaGreatDoorCards
import Derived.SevenTiedAt
import Derived.Lay
import Derived.ChangeMaps5
namespace Go.Proofs.YtccnliihdhnckaaGreatDoor
open Go.ChangeShapes Go.WideShapes Go.ChangeAt Go.RowKit Go.ChangeMaps
set_option linter.unusedVariables false
theorem bd_i64 {n : Int} (h : (Lit.int .i64 n).wf = true) : -9223372036854775808 ≤ n ∧ n ≤ 9223372036854775807 := by
  simp [Lit.wf, IntKind.min, IntKind.max, IntKind.signed, IntKind.bits] at h; omega
theorem bd_u32 {n : Int} (h : (Lit.int .u32 n).wf = true) : 0 ≤ n ∧ n < 4294967296 := by
  simp [Lit.wf, IntKind.min, IntKind.max, IntKind.signed, IntKind.bits] at h; omega
/-- the variables that are listed, the handle apart -/
noncomputable abbrev textsLaid : List (String × DataW Unit) := Rows.asmTextsRow.laid.filter fun x => x.2.handleName?.isNone
/-- the door's own heap, the table that is pinned laid into it -/
noncomputable def doorTexts (os : Os) : World := (World.doorLaid Tryz.prog 279 os).layVars Tryz.prog (textsLaid.filter fun x => ["unicode/utf8.first"].contains x.1)
theorem doorTexts_os (os : Os) : (doorTexts os).os = os := (World.layVars_os _ _ _).trans rfl
noncomputable abbrev doorBlocks (os : Os) : List Nat := (List.range (World.doorLaid Tryz.prog 279 os).heap.size).filter (· != 17)
/-- It meets the condition. -/
theorem texts_met (os : Os) (args : Array Value) : laidMetH Tryz.prog Rows.asmTextsRow.laid ((doorTexts os).forCall (fun _ _ => 0) ⟨#[], args, []⟩).memory :=
  laidMetH_of_parts3 (fuel := 8) (laidMet_layVars (w0 := World.doorLaid Tryz.prog 279 os) (w' := ((doorTexts os).forCall (fun _ _ => 0) ⟨#[], args, []⟩).memory) ["unicode/utf8.first"] (doorBlocks os) (by simp [World.memory, World.forCall, Input.heap, doorTexts]) (by kernel_rfl) (by kernel_rfl)
    (LaidIn.of_run (doorBlocks os) 8 (by kernel_rfl) (by kernel_rfl) (by kernel_rfl) (by kernel_rfl))) (by kernel_rfl) (by kernel_rfl)
set_option maxRecDepth 100000 in
theorem texts_lifted (os : Os) (started : os.Started) (H : Type) (enc : TypeId × Value → H) :
    ReturnsInHanded {} Tryz.checked os 3 .any (fun w args => (Rows.asmTextsSpec.pre enc Tryz.prog Tryz.f3 [] false w args ∧ laidMetH Tryz.prog Rows.asmTextsRow.laid w) ∧ sizedMet enc Tryz.prog Tryz.f3 (OpenSpec.ofChange Rows.asmTextsSpec) false w args)
      (Rows.asmTextsSpec.post enc Tryz.prog Tryz.f3 false true false false) := by
  refine returns_and_shaped (C := Tryz.checked) (X := fun w _ => laidMetH Tryz.prog Rows.asmTextsRow.laid w) (fun _ _ _ hh h => h.of_heap hh) Tryz.own started (by kernel_rfl) Tryz.func3
    (ChangeSpec.witness_shaped (enc := enc) (C := Tryz.checked) (os := os) (X := fun w _ => laidMetH Tryz.prog Rows.asmTextsRow.laid w) false (doorTexts os) #[ins 0 0 0 0 0, .string ⟨#[]⟩] 8 (doorTexts_os os) (World.shaped_of_ZipB (by kernel_rfl) (by kernel_rfl)) (by kernel_rfl) (by kernel_rfl) (by kernel_rfl) (texts_met os _)) ?_
  intro W base args ds gs before hval0 hW hL hsh
  have hval : ∀ (j : Nat) t v, Tryz.f3.params[j]? = some t → args[j]? = some v → Value.okWide Tryz.prog W .any base t v := hval0
  have hW' := hW
  obtain ⟨p, q, hA0, hV, rfl, hfz, hnd⟩ := hW
  have hA : DataW.TrodAll enc Tryz.prog W 0 (fun _ => true) true Tryz.f3.params.toList args.toList ds p := hA0
  rw [Tryz.params3] at hA hval
  obtain ⟨v0, vs0, d0, ds0, p0, q0, hargs, rfl, rfl, h0, r0⟩ := trodAll_cons hA
  obtain ⟨v1, vs1, d1, ds1, p1, q1, rfl, rfl, rfl, h1, r1⟩ := trodAll_cons r0
  obtain ⟨rfl, rfl, rfl⟩ := trodAll_nil r1
  obtain rfl : args = #[v0, v1] := by cases args; simp_all
  obtain ⟨rfl, rfl⟩ := trodVars_none hV
  obtain ⟨i0, i1, i2, i3, i4, rfl, rfl, rfl, k0, k1, k2, k3, k4⟩ := open_ins (hval 0 24 v0 rfl rfl) h0
  obtain ⟨sv, rfl, rfl, rfl, hsv⟩ := open_string Tryz.underlying9 (hval 1 9 v1 rfl rfl) h1
  clear hA0 hval0
  have b1 := bd_i64 k1
  have b2 := bd_i64 k2
  have b3 := bd_i64 k3
  have b4 := bd_u32 k4
  obtain ⟨S, EE, T, L⟩ := all_of_laid (W := W) _ _ _ _ hL.1 hL.2 hsh
  have e1 : Rows.asmTextsSpec.fn H ([insD i0 i1 i2 i3 i4, .lit (.string sv.data.toList)] ++ []) = { results := [.lit (.bool true)], args := [insD i0 i1 i2 i3 i4, .lit (.string sv.data.toList)] } := by simp [Rows.asmTextsSpec]
  have hsv' : ((sv.data.toList).length : Int) ≤ 9223372036854775807 := by
    have : sv.data.toList.length = sv.size := by rw [Array.length_toList]; rfl
    unfold maxLen at hsv; omega
  have hcall := asmTexts_of parseOf_any S i0 i1 i2 i3 i4 b4.1 b4.2 b1.1 b1.2 b2.1 b2.2 b3.1 b3.2 sv.data.toList hsv' W EE T L
  rw [show (⟨sv.data.toList.toArray⟩ : ByteArray) = sv by cases sv; simp] at hcall
  refine hcall.mono fun e W' ⟨he, hb⟩ => ?_
  subst he
  refine ⟨_, rfl, _, _, _, [], [], [], hW', ?_, ?_, ?_, hb.frame _, fun h => by cases h⟩
  · rw [e1]; exact trodAll_mk1 (shut_bool Tryz.underlying4 true)
  · rw [e1]; exact trodAll_cons_mk (shut_ins k0 k1 k2 k3 k4) (trodAll_cons_mk (shut_string Tryz.underlying9 hsv) trodAll_mk0)
  · rw [e1]; rfl
theorem texts_holds : Rows.AsmTextsSaid :=
  OpenClaim.holds_of_wide 3 Tryz.f3 rfl rfl rfl rfl rfl rfl rfl ⟨rfl, rfl, rfl, rfl, rfl⟩ rfl rfl rfl rfl rfl (by kernel_rfl) Tryz.func3 (by kernel_rfl)
    (of_decide_eq_true (by kernel_rfl)) (by unfold Func.isWrapper; first | (rw [if_pos (by decide +kernel)]; kernel_rfl) | (rw [if_neg (by decide +kernel)]; exact ⟨rfl, rfl⟩))
    (fun os started H enc _ => texts_lifted os started H enc)
theorem texts_card : Rows.AsmTextsCardSaid :=
  Claim7.holds_tied_plain_at .later [] [.data, .data, .data, .data, .handle, .sentinel, .sentinel, .sentinel, .sentinel, .sentinel, .sentinel, .sentinel, .sentinel, .sentinel, .sentinel, .data, .sentinel, .sentinel, .data, .pinned] true (true, "b9958ec5cc5b9cb7ab83235c5ead67fbd5443e2c447d455ca370cdedcad2b8fe") true
    texts_holds (fun _ h => by cases h) (by kernel_rfl) (fun _ h => by cases h) asmTexts_row_tie rfl ⟨rfl, rfl⟩ (by kernel_rfl) rfl
    (fun f fn hf hfn => by
      obtain rfl : f = 3 := Option.some.inj ((show Tryz.prog.funcNamed "changeling/changelinglaw1.AsmTexts" = some 3 by kernel_rfl).symm.trans hf) |>.symm
      obtain rfl : fn = Tryz.f3 := (Option.some.inj (Tryz.func3.symm.trans hfn)).symm
      exact ⟨by kernel_rfl, fun j t ht => by
        rw [Tryz.params3] at ht
        have hm : t ∈ [24, 9] := by simpa using Array.mem_of_getElem? ht
        have hall : ([24, 9].all fun u => !Tryz.prog.wantsStandIn u) = true := by kernel_rfl
        exact (show Tryz.prog.wantsStandIn t = false by simpa using List.all_eq_true.1 hall t hm)⟩)
    (by kernel_rfl)
#print axioms texts_card
end Go.Proofs.YtccnliihdhnckaaGreatDoor
