/-
  The call AsmBack(l, at, base) returns true, for every slice of words, every number and every word: words that are written as text (those that are no instruction as words) are assembled again, and a label changes no word; the arguments read behind the call as before. Condition: nine errors of package api, two errors of package strconv, the tables of package code and of package asm, and five tables of Go's library hold what the program's own text lays there (the card ties that).
-/
import Derived.Test.YtccnliihdhnckaaGreatDoorBackW
import Derived.Test.YtccnliihdhnckaaGreatDoorLay9
import Derived.Test.YtccnliihdhnckaaGreatDoorTie
import Derived.Test.YtccnliihdhnckaaGreatDoorCards
import Derived.SevenTiedAt
import Derived.Lay
import Derived.ChangeMaps5
namespace Go.Proofs.YtccnliihdhnckaaGreatDoor
open Go.ChangeShapes Go.WideShapes Go.ChangeAt Go.RowKit Go.ChangeMaps
set_option linter.unusedVariables false
/-- the door's own heap, the table that is pinned laid into it -/
noncomputable def doorBack (os : Os) : World := (World.doorLaid Tryz.prog 279 os).layVars Tryz.prog (Rows.asmBackRow.laid.filter fun x => ["unicode/utf8.first"].contains x.1)
theorem doorBack_os (os : Os) : (doorBack os).os = os := (World.layVars_os _ _ _).trans rfl
noncomputable abbrev doorBlocks (os : Os) : List Nat := (List.range (World.doorLaid Tryz.prog 279 os).heap.size).filter (· != 17)
/-- It meets the condition. -/
theorem back_met (os : Os) (args : Array Value) : laidMetH Tryz.prog Rows.asmBackRow.laid ((doorBack os).forCall (fun _ _ => 0) ⟨#[], args, []⟩).memory := by
  show laidMet _ _ _
  exact laidMet_layVars (w0 := World.doorLaid Tryz.prog 279 os) (w' := ((doorBack os).forCall (fun _ _ => 0) ⟨#[], args, []⟩).memory) ["unicode/utf8.first"] (doorBlocks os) (by simp [World.memory, World.forCall, Input.heap, doorBack]) (by kernel_rfl) (by kernel_rfl)
    (LaidIn.of_run (doorBlocks os) 8 (by kernel_rfl) (by kernel_rfl) (by kernel_rfl) (by kernel_rfl))
set_option maxRecDepth 100000 in
theorem back_lifted (os : Os) (started : os.Started) (H : Type) (enc : TypeId × Value → H) :
    ReturnsInHanded {} Tryz.checked os 5 .any (fun w args => (Rows.asmBackSpec.pre enc Tryz.prog Tryz.f5 [] false w args ∧ laidMetH Tryz.prog Rows.asmBackRow.laid w) ∧ sizedMet enc Tryz.prog Tryz.f5 (OpenSpec.ofChange Rows.asmBackSpec) false w args)
      (Rows.asmBackSpec.post enc Tryz.prog Tryz.f5 false true false false) := by
  refine returns_and_shaped (C := Tryz.checked) (X := fun w _ => laidMetH Tryz.prog Rows.asmBackRow.laid w) (fun _ _ _ hh h => h.of_heap hh) Tryz.own started (by kernel_rfl) Tryz.func5
    (ChangeSpec.witness_shaped (enc := enc) (C := Tryz.checked) (os := os) (X := fun w _ => laidMetH Tryz.prog Rows.asmBackRow.laid w) false (doorBack os) #[.slice none 0 0, .int .i64 0, .int .u32 0] 8 (doorBack_os os) (World.shaped_of_ZipB (by kernel_rfl) (by kernel_rfl)) (by kernel_rfl) (by kernel_rfl) (by kernel_rfl) (back_met os _)) ?_
  intro W base args ds gs before hval0 hW hL hsh
  have hval : ∀ (j : Nat) t v, Tryz.f5.params[j]? = some t → args[j]? = some v → Value.okWide Tryz.prog W .any base t v := hval0
  have hW' := hW
  obtain ⟨p, q, hA0, hV, rfl, hfz, hnd⟩ := hW
  have hA : DataW.TrodAll enc Tryz.prog W 0 (fun _ => true) true Tryz.f5.params.toList args.toList ds p := hA0
  rw [Tryz.params5] at hA hval
  obtain ⟨v0, vs0, d0, ds0, p0, q0, hargs, rfl, rfl, h0, r0⟩ := trodAll_cons hA
  obtain ⟨v1, vs1, d1, ds1, p1, q1, rfl, rfl, rfl, h1, r1⟩ := trodAll_cons r0
  obtain ⟨v2, vs2, d2, ds2, p2, q2, rfl, rfl, rfl, h2, r2⟩ := trodAll_cons r1
  obtain ⟨rfl, rfl, rfl⟩ := trodAll_nil r2
  obtain rfl : args = #[v0, v1, v2] := by cases args; simp_all
  obtain ⟨rfl, rfl⟩ := trodVars_none hV
  obtain ⟨ao, cap, vs, hv0, X, hx, hlen⟩ := words_of (hval 0 41 v0 rfl rfl) h0
  obtain ⟨a, rfl, rfl, rfl, ka⟩ := open_int Tryz.underlying3 (hval 1 3 v1 rfl rfl) h1
  obtain ⟨c, rfl, rfl, rfl, kc⟩ := open_int Tryz.underlying22 (hval 2 22 v2 rfl rfl) h2
  clear hA0 hval0
  have ba := bd_i64 ka
  have bc := bd_u32 kc
  obtain ⟨S, EE, T, L⟩ := all_of_nine (W := W) _ _ _ _ hL hsh
  simp only [List.append_nil] at hW'
  have hlt : ∀ x ∈ p0, x.block < W.heap.size := fun x hx => by simpa using hW'.lt x hx
  have e1 : Rows.asmBackSpec.fn H ([d0, .lit (.int .i64 a), .lit (.int .u32 c)] ++ []) = { results := [.lit (.bool true)], args := [d0, .lit (.int .i64 a), .lit (.int .u32 c)] } := by simp [Rows.asmBackSpec]
  have hcall := asmBack_any S EE T L (cap := cap) X hx hlen a ba.1 ba.2 c bc.1 bc.2
  rw [← hv0] at hcall
  refine hcall.mono fun e W' ⟨he, hb⟩ => ?_
  subst he
  refine ⟨_, rfl, _, _, _, [], p0, [], hW', ?_, ?_, ?_, hb.frame _, fun h => by cases h⟩
  · rw [e1]; exact trodAll_mk1 (shut_bool Tryz.underlying4 true)
  · have t := trodAll_cons_mk (Below.trod Tryz.laidOut (by kernel_rfl) (of_decide_eq_true (by kernel_rfl)) h0 hb hlt) (trodAll_cons_mk (shut_int (base := 0) (spare := fun b => decide (b < W.heap.size)) (held := true) (w := W') (enc := enc) Tryz.underlying3 ka) (trodAll_cons_mk (shut_int (base := 0) (spare := fun b => decide (b < W.heap.size)) (held := true) (w := W') (enc := enc) Tryz.underlying22 kc) trodAll_mk0))
    simp only [List.append_nil] at t
    rw [e1]; exact t
  · rw [e1]; rfl
theorem back_holds : Rows.AsmBackSaid :=
  OpenClaim.holds_of_wide 5 Tryz.f5 rfl rfl rfl rfl rfl rfl rfl ⟨rfl, rfl, rfl, rfl, rfl⟩ rfl rfl rfl rfl rfl (by kernel_rfl) Tryz.func5 (by kernel_rfl)
    (of_decide_eq_true (by kernel_rfl)) (by unfold Func.isWrapper; first | (rw [if_pos (by decide +kernel)]; kernel_rfl) | (rw [if_neg (by decide +kernel)]; exact ⟨rfl, rfl⟩))
    (fun os started H enc _ => back_lifted os started H enc)
theorem back_card : Rows.AsmBackCardSaid :=
  Claim7.holds_tied_plain_at .later [] [.data, .data, .data, .data, .sentinel, .sentinel, .sentinel, .sentinel, .sentinel, .sentinel, .sentinel, .sentinel, .sentinel, .data, .sentinel, .sentinel, .data, .pinned] true (true, "b9958ec5cc5b9cb7ab83235c5ead67fbd5443e2c447d455ca370cdedcad2b8fe") true
    back_holds (fun _ h => by cases h) (by kernel_rfl) (fun _ h => by cases h) asmBack_row_tie rfl ⟨rfl, rfl⟩ (by kernel_rfl) rfl
    (fun f fn hf hfn => by
      obtain rfl : f = 5 := Option.some.inj ((show Tryz.prog.funcNamed "changeling/changelinglaw1.AsmBack" = some 5 by kernel_rfl).symm.trans hf) |>.symm
      obtain rfl : fn = Tryz.f5 := (Option.some.inj (Tryz.func5.symm.trans hfn)).symm
      exact ⟨by kernel_rfl, fun j t ht => by
        rw [Tryz.params5] at ht
        have hm : t ∈ [41, 3, 22] := by simpa using Array.mem_of_getElem? ht
        have hall : ([41, 3, 22].all fun u => !Tryz.prog.wantsStandIn u) = true := by kernel_rfl
        exact (show Tryz.prog.wantsStandIn t = false by simpa using List.all_eq_true.1 hall t hm)⟩)
    (by kernel_rfl)
#print axioms back_card
end Go.Proofs.YtccnliihdhnckaaGreatDoor
