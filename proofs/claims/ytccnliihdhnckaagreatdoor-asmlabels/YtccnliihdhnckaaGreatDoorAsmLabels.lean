/-
  The call AsmLabels(many, from, to, base) returns true, for every three numbers and every word: a branch to a label, and a jump to it, go where the label is; the arguments read behind the call as before. Condition: nine errors of package api, two errors of package strconv, the tables of package code and of package asm, and five tables of Go's library hold what the program's own text lays there (the card ties that).
-/
import Derived.Test.YtccnliihdhnckaaGreatDoorLabW
import Derived.Test.YtccnliihdhnckaaGreatDoorLay9
import Derived.Test.YtccnliihdhnckaaGreatDoorTie
import Derived.Test.YtccnliihdhnckaaGreatDoorCards
import Derived.SevenTiedAt
import Derived.Lay
import Derived.ChangeMaps5
namespace Go.Proofs.YtccnliihdhnckaaGreatDoor
open Go.ChangeShapes Go.WideShapes Go.ChangeAt Go.RowKit Go.ChangeMaps
set_option linter.unusedVariables false
/-- the door's own heap, the table that is pinned laid into it -/
noncomputable def doorLabs (os : Os) : World := (World.doorLaid Tryz.prog 279 os).layVars Tryz.prog (Rows.asmLabelsRow.laid.filter fun x => ["unicode/utf8.first"].contains x.1)
theorem doorLabs_os (os : Os) : (doorLabs os).os = os := (World.layVars_os _ _ _).trans rfl
noncomputable abbrev doorBlocks (os : Os) : List Nat := (List.range (World.doorLaid Tryz.prog 279 os).heap.size).filter (· != 17)
/-- It meets the condition. -/
theorem labs_met (os : Os) (args : Array Value) : laidMetH Tryz.prog Rows.asmLabelsRow.laid ((doorLabs os).forCall (fun _ _ => 0) ⟨#[], args, []⟩).memory := by
  show laidMet _ _ _
  exact laidMet_layVars (w0 := World.doorLaid Tryz.prog 279 os) (w' := ((doorLabs os).forCall (fun _ _ => 0) ⟨#[], args, []⟩).memory) ["unicode/utf8.first"] (doorBlocks os) (by simp [World.memory, World.forCall, Input.heap, doorLabs]) (by kernel_rfl) (by kernel_rfl)
    (LaidIn.of_run (doorBlocks os) 8 (by kernel_rfl) (by kernel_rfl) (by kernel_rfl) (by kernel_rfl))
set_option maxRecDepth 100000 in
theorem labs_lifted (os : Os) (started : os.Started) (H : Type) (enc : TypeId × Value → H) :
    ReturnsInHanded {} Tryz.checked os 6 .any (fun w args => (Rows.asmLabelsSpec.pre enc Tryz.prog Tryz.f6 [] false w args ∧ laidMetH Tryz.prog Rows.asmLabelsRow.laid w) ∧ sizedMet enc Tryz.prog Tryz.f6 (OpenSpec.ofChange Rows.asmLabelsSpec) false w args)
      (Rows.asmLabelsSpec.post enc Tryz.prog Tryz.f6 false true false false) := by
  refine returns_and_shaped (C := Tryz.checked) (X := fun w _ => laidMetH Tryz.prog Rows.asmLabelsRow.laid w) (fun _ _ _ hh h => h.of_heap hh) Tryz.own started (by kernel_rfl) Tryz.func6
    (ChangeSpec.witness_shaped (enc := enc) (C := Tryz.checked) (os := os) (X := fun w _ => laidMetH Tryz.prog Rows.asmLabelsRow.laid w) false (doorLabs os) #[.int .i64 0, .int .i64 0, .int .i64 0, .int .u32 0] 8 (doorLabs_os os) (World.shaped_of_ZipB (by kernel_rfl) (by kernel_rfl)) (by kernel_rfl) (by kernel_rfl) (by kernel_rfl) (labs_met os _)) ?_
  intro W base args ds gs before hval0 hW hL hsh
  have hval : ∀ (j : Nat) t v, Tryz.f6.params[j]? = some t → args[j]? = some v → Value.okWide Tryz.prog W .any base t v := hval0
  have hW' := hW
  obtain ⟨p, q, hA0, hV, rfl, hfz, hnd⟩ := hW
  have hA : DataW.TrodAll enc Tryz.prog W 0 (fun _ => true) true Tryz.f6.params.toList args.toList ds p := hA0
  rw [Tryz.params6] at hA hval
  obtain ⟨v0, vs0, d0, ds0, p0, q0, hargs, rfl, rfl, h0, r0⟩ := trodAll_cons hA
  obtain ⟨v1, vs1, d1, ds1, p1, q1, rfl, rfl, rfl, h1, r1⟩ := trodAll_cons r0
  obtain ⟨v2, vs2, d2, ds2, p2, q2, rfl, rfl, rfl, h2, r2⟩ := trodAll_cons r1
  obtain ⟨v3, vs3, d3, ds3, p3, q3, rfl, rfl, rfl, h3, r3⟩ := trodAll_cons r2
  obtain ⟨rfl, rfl, rfl⟩ := trodAll_nil r3
  obtain rfl : args = #[v0, v1, v2, v3] := by cases args; simp_all
  obtain ⟨rfl, rfl⟩ := trodVars_none hV
  obtain ⟨a, rfl, rfl, rfl, ka⟩ := open_int Tryz.underlying3 (hval 0 3 v0 rfl rfl) h0
  obtain ⟨b, rfl, rfl, rfl, kb⟩ := open_int Tryz.underlying3 (hval 1 3 v1 rfl rfl) h1
  obtain ⟨d, rfl, rfl, rfl, kd⟩ := open_int Tryz.underlying3 (hval 2 3 v2 rfl rfl) h2
  obtain ⟨c, rfl, rfl, rfl, kc⟩ := open_int Tryz.underlying22 (hval 3 22 v3 rfl rfl) h3
  clear hA0 hval0
  have ba := bd_i64 ka
  have bb := bd_i64 kb
  have bd := bd_i64 kd
  have bc := bd_u32 kc
  obtain ⟨S, EE, T, L⟩ := all_of_nine (W := W) _ _ _ _ hL hsh
  have e1 : Rows.asmLabelsSpec.fn H ([.lit (.int .i64 a), .lit (.int .i64 b), .lit (.int .i64 d), .lit (.int .u32 c)] ++ []) = { results := [.lit (.bool true)], args := [.lit (.int .i64 a), .lit (.int .i64 b), .lit (.int .i64 d), .lit (.int .u32 c)] } := by simp [Rows.asmLabelsSpec]
  refine (asmLabels_any S EE T L a b d ba.1 ba.2 bb.1 bb.2 bd.1 bd.2 c bc.1 bc.2).mono fun e W' ⟨he, hb⟩ => ?_
  subst he
  refine ⟨_, rfl, _, _, _, [], [], [], hW', ?_, ?_, ?_, hb.frame _, fun h => by cases h⟩
  · rw [e1]; exact trodAll_mk1 (shut_bool Tryz.underlying4 true)
  · rw [e1]; exact trodAll_cons_mk (shut_int Tryz.underlying3 ka) (trodAll_cons_mk (shut_int Tryz.underlying3 kb) (trodAll_cons_mk (shut_int Tryz.underlying3 kd) (trodAll_cons_mk (shut_int Tryz.underlying22 kc) trodAll_mk0)))
  · rw [e1]; rfl
theorem labs_holds : Rows.AsmLabelsSaid :=
  OpenClaim.holds_of_wide 6 Tryz.f6 rfl rfl rfl rfl rfl rfl rfl ⟨rfl, rfl, rfl, rfl, rfl⟩ rfl rfl rfl rfl rfl (by kernel_rfl) Tryz.func6 (by kernel_rfl)
    (of_decide_eq_true (by kernel_rfl)) (by unfold Func.isWrapper; first | (rw [if_pos (by decide +kernel)]; kernel_rfl) | (rw [if_neg (by decide +kernel)]; exact ⟨rfl, rfl⟩))
    (fun os started H enc _ => labs_lifted os started H enc)
theorem labs_card : Rows.AsmLabelsCardSaid :=
  Claim7.holds_tied_plain_at .later [] [.data, .data, .data, .data, .sentinel, .sentinel, .sentinel, .sentinel, .sentinel, .sentinel, .sentinel, .sentinel, .sentinel, .data, .sentinel, .sentinel, .data, .pinned] true (true, "b9958ec5cc5b9cb7ab83235c5ead67fbd5443e2c447d455ca370cdedcad2b8fe") true
    labs_holds (fun _ h => by cases h) (by kernel_rfl) (fun _ h => by cases h) asmLabels_row_tie rfl ⟨rfl, rfl⟩ (by kernel_rfl) rfl
    (fun f fn hf hfn => by
      obtain rfl : f = 6 := Option.some.inj ((show Tryz.prog.funcNamed "changeling/changelinglaw1.AsmLabels" = some 6 by kernel_rfl).symm.trans hf) |>.symm
      obtain rfl : fn = Tryz.f6 := (Option.some.inj (Tryz.func6.symm.trans hfn)).symm
      exact ⟨by kernel_rfl, fun j t ht => by
        rw [Tryz.params6] at ht
        have hm : t ∈ [3, 3, 3, 22] := by simpa using Array.mem_of_getElem? ht
        have hall : ([3, 3, 3, 22].all fun u => !Tryz.prog.wantsStandIn u) = true := by kernel_rfl
        exact (show Tryz.prog.wantsStandIn t = false by simpa using List.all_eq_true.1 hall t hm)⟩)
    (by kernel_rfl)
#print axioms labs_card
end Go.Proofs.YtccnliihdhnckaaGreatDoor
