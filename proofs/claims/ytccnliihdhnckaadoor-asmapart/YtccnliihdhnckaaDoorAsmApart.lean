/-
  The call AsmApart(a, b) returns true, for every two instructions: they have one text only if they are one, and one word only then; both arguments read behind the call as before. Condition: the two errors of package api that it names, package code's table of first words, package asm's table of names, and three tables of Go's library hold what the program's own text lays there (the card ties that).
-/
import Derived.Test.YtccnliihdhnckaaDoorApart
import Derived.Test.YtccnliihdhnckaaDoorIns
import Derived.Test.YtccnliihdhnckaaDoorTie
import Derived.Test.YtccnliihdhnckaaDoorCards
import Derived.SevenTiedAt
namespace Go.Proofs.YtccnliihdhnckaaDoor
open Go.ChangeShapes Go.WideShapes Go.ChangeAt Go.RowKit
set_option linter.unusedVariables false
theorem Tryd.own : ownKnob Tryd.prog.godebug = none := by kernel_rfl
/-- The door's own heap meets the condition. -/
theorem apart_met (os : Os) (args : Array Value) : laidMetH Tryd.prog Rows.asmApartRow.laid ((World.doorLaid Tryd.prog 72 os).forCall (fun _ _ => 0) ⟨#[], args, []⟩).memory := by
  show laidMet _ _ _
  exact laidMet_of_run' 8 (by kernel_rfl) (by kernel_rfl)
theorem bd_i64 {n : Int} (h : (Lit.int .i64 n).wf = true) : -9223372036854775808 ≤ n ∧ n ≤ 9223372036854775807 := by
  simp [Lit.wf, IntKind.min, IntKind.max, IntKind.signed, IntKind.bits] at h; omega
theorem bd_u32 {n : Int} (h : (Lit.int .u32 n).wf = true) : 0 ≤ n ∧ n < 4294967296 := by
  simp [Lit.wf, IntKind.min, IntKind.max, IntKind.signed, IntKind.bits] at h; omega
set_option maxRecDepth 100000 in
theorem apart_lifted (os : Os) (started : os.Started) (H : Type) (enc : TypeId × Value → H) :
    ReturnsInHanded {} Tryd.checked os 3 .any (fun w args => (Rows.asmApartSpec.pre enc Tryd.prog Tryd.f3 [] false w args ∧ laidMetH Tryd.prog Rows.asmApartRow.laid w) ∧ sizedMet enc Tryd.prog Tryd.f3 (OpenSpec.ofChange Rows.asmApartSpec) false w args)
      (Rows.asmApartSpec.post enc Tryd.prog Tryd.f3 false true false false) := by
  refine returnsInHanded_of_change_and (C := Tryd.checked) (X := fun w _ => laidMetH Tryd.prog Rows.asmApartRow.laid w) (fun _ _ _ hh h => h.of_heap hh) Tryd.own started (by kernel_rfl) Tryd.func3
    (ChangeSpec.witness_shaped (enc := enc) (C := Tryd.checked) (os := os) (X := fun w _ => laidMetH Tryd.prog Rows.asmApartRow.laid w) false (World.doorLaid Tryd.prog 72 os) #[ins 0 0 0 0 0, ins 0 0 0 0 0] 8 rfl (World.shaped_of_RefB (by kernel_rfl) (by kernel_rfl)) (by kernel_rfl) (by kernel_rfl) (by kernel_rfl) (apart_met os _)) ?_
  intro W base args ds gs before hval0 hW _ _ hL _
  have hval : ∀ (j : Nat) t v, Tryd.f3.params[j]? = some t → args[j]? = some v → Value.okWide Tryd.prog W .any base t v := hval0
  have hW' := hW
  obtain ⟨p, q, hA0, hV, rfl, hfz, hnd⟩ := hW
  have hA : DataW.TrodAll enc Tryd.prog W 0 (fun _ => true) true Tryd.f3.params.toList args.toList ds p := hA0
  rw [Tryd.params3] at hA hval
  obtain ⟨v0, vs0, d0, ds0, p0, q0, hargs, rfl, rfl, h0, r0⟩ := trodAll_cons hA
  obtain ⟨v1, vs1, d1, ds1, p1, q1, rfl, rfl, rfl, h1, r1⟩ := trodAll_cons r0
  obtain ⟨rfl, rfl, rfl⟩ := trodAll_nil r1
  obtain rfl : args = #[v0, v1] := by cases args; simp_all
  obtain ⟨rfl, rfl⟩ := trodVars_none hV
  obtain ⟨i0, i1, i2, i3, i4, rfl, rfl, rfl, k0, k1, k2, k3, k4⟩ := open_ins (hval 0 24 v0 rfl rfl) h0
  obtain ⟨j0, j1, j2, j3, j4, rfl, rfl, rfl, l0, l1, l2, l3, l4⟩ := open_ins (hval 1 24 v1 rfl rfl) h1
  clear hA0 hval0
  have b1 := bd_i64 k1
  have b2 := bd_i64 k2
  have b3 := bd_i64 k3
  have b4 := bd_u32 k4
  have c1 := bd_i64 l1
  have c2 := bd_i64 l2
  have c3 := bd_i64 l3
  have c4 := bd_u32 l4
  obtain ⟨pk, pb, T, L⟩ := tb_of_laid (W := W) _ _ hL
  have e1 : Rows.asmApartSpec.fn H ([insD i0 i1 i2 i3 i4, insD j0 j1 j2 j3 j4] ++ []) = { results := [.lit (.bool true)], args := [insD i0 i1 i2 i3 i4, insD j0 j1 j2 j3 j4] } := by simp [Rows.asmApartSpec]
  refine (asmApart_any pk pb i0 i1 i2 i3 i4 j0 j1 j2 j3 j4 b4.1 b4.2 b1.1 b1.2 b2.1 b2.2 b3.1 b3.2 c4.1 c4.2 c1.1 c1.2 c2.1 c2.2 c3.1 c3.2 W T L).mono fun e W' ⟨he, hb⟩ => ?_
  subst he
  refine ⟨_, rfl, _, _, _, [], [], [], hW', ?_, ?_, ?_, hb.frame _, fun h => by cases h⟩
  · rw [e1]; exact trodAll_mk1 (shut_bool Tryd.underlying4 true)
  · rw [e1]; exact trodAll_cons_mk (shut_ins k0 k1 k2 k3 k4) (trodAll_cons_mk (shut_ins l0 l1 l2 l3 l4) trodAll_mk0)
  · rw [e1]; rfl
theorem apart_holds : Rows.AsmApartSaid :=
  OpenClaim.holds_of_wide 3 Tryd.f3 rfl rfl rfl rfl rfl rfl rfl ⟨rfl, rfl, rfl, rfl, rfl⟩ rfl rfl rfl rfl rfl (by kernel_rfl) Tryd.func3 (by kernel_rfl)
    (of_decide_eq_true (by kernel_rfl)) (by unfold Func.isWrapper; first | (rw [if_pos (by decide +kernel)]; kernel_rfl) | (rw [if_neg (by decide +kernel)]; exact ⟨rfl, rfl⟩))
    (fun os started H enc _ => apart_lifted os started H enc)
theorem apart_card : Rows.AsmApartCardSaid :=
  Claim7.holds_tied_plain_at .later [] [.data, .data, .data, .sentinel, .sentinel, .data, .data] true (true, "32ea1f465c937a3293954de8a6f7675b1ccc503091879b22ed372d90ba6bad15") false
    apart_holds (fun _ h => by cases h) (by kernel_rfl) (fun _ h => by cases h) asmApart_row_tie rfl ⟨rfl, rfl⟩ (by kernel_rfl) rfl
    (fun f fn hf hfn => by
      obtain rfl : f = 3 := Option.some.inj ((show Tryd.prog.funcNamed "changeling/changelinglaw1.AsmApart" = some 3 by kernel_rfl).symm.trans hf) |>.symm
      obtain rfl : fn = Tryd.f3 := (Option.some.inj (Tryd.func3.symm.trans hfn)).symm
      exact ⟨by kernel_rfl, fun j t ht => by
        rw [Tryd.params3] at ht
        have hm : t ∈ [24, 24] := by simpa using Array.mem_of_getElem? ht
        have hall : ([24, 24].all fun u => !Tryd.prog.wantsStandIn u) = true := by kernel_rfl
        exact (show Tryd.prog.wantsStandIn t = false by simpa using List.all_eq_true.1 hall t hm)⟩)
    (by kernel_rfl)
#print axioms apart_card
end Go.Proofs.YtccnliihdhnckaaDoor
