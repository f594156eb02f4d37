/-
  The call AsmPrograms(l, base) returns true, for every slice of texts and every word: what Assemble answers at these lines is the document's answer, its error and line too; the arguments read behind the call as before. Condition: the ten errors of package api, package errors' handle of the type error, two errors of package strconv, the tables of package code and of package asm, and five tables of Go's library hold what the program's own text lays there (the card ties that).
-/
import Derived.SliceStrings
import Derived.Test.YtccnliihdhnckaaGreatDoorTie
import Derived.Test.YtccnliihdhnckaaGreatDoorCards
import Derived.SevenTiedAt
import Derived.Lay
import Derived.ChangeMaps5
import Derived.Test.YtccnliihdhnckaaGreatDoorKDA8
import Derived.Test.YtccnliihdhnckaaGreatDoorKTW1
namespace Go.Proofs.YtccnliihdhnckaaGreatDoor
open Go.ChangeShapes Go.WideShapes Go.ChangeAt Go.RowKit Go.ChangeMaps
set_option linter.unusedVariables false
theorem bd_u32 {n : Int} (h : (Lit.int .u32 n).wf = true) : 0 ≤ n ∧ n < 4294967296 := by
  simp [Lit.wf, IntKind.min, IntKind.max, IntKind.signed, IntKind.bits] at h; omega
theorem Tryz.laidOut : laidOutB Tryz.prog = true := by kernel_rfl
theorem add_plain9 (b off k : Nat) : (⟨b, off, none⟩ : Addr).add k = ⟨b, off + k, none⟩ := by unfold Addr.add; simp
theorem cStr9 : Tryz.prog.cellsOf 9 = 1 := by kernel_rfl
set_option maxRecDepth 100000 in
/-- a slice of texts that came in -/
theorem strs_of {H : Type} {enc : TypeId × Value → H} {W : World} {base : Nat} {v : Value} {d : DataW H} {p : List MemPlace} (hv : Value.okWide Tryz.prog W .any base 39 v) (h : DataW.Trod enc Tryz.prog W 0 (fun _ => true) true 39 v d p) :
    ∃ (ao : Option Addr) (cap : Nat) (ls : List (List UInt8)), v = .slice ao ls.length cap ∧ TIn W ao ls ∧ (∀ l ∈ ls, (l.length : Int) ≤ 9223372036854775807) ∧ (ls.length : Int) ≤ 9223372036854775807 := by
  obtain ⟨a0, len, cap, rfl⟩ := okWide_slice Tryz.underlying39 hv
  obtain ⟨fuel, hf⟩ := h
  rcases open_strings Tryz.underlying39 Tryz.underlying9 cStr9 hf with ⟨hcs, hx⟩ | ⟨a, len', cap', zs, hcs, _, hl, hm, hz, hx, hcell, hwz⟩
  · simp [Value.cells] at hcs
    obtain ⟨rfl, rfl, rfl⟩ := hcs
    exact ⟨none, 0, [], rfl, ⟨fun h => absurd h (by simp)⟩, by simp, by simp⟩
  · simp [Value.cells] at hcs
    obtain ⟨rfl, rfl, rfl⟩ := hcs
    simp only [if_true] at hz
    have hlen : ((zs.take len).map fun s => s.data.toList).length = len := by simp; omega
    refine ⟨some a, cap, (zs.take len).map fun s => s.data.toList, by rw [hlen], ⟨fun hp => ?_⟩, fun l hl => ?_, ?_⟩
    · obtain ⟨b, off, spot⟩ := a
      have hspot : spot = none := by simpa [Addr.add] using World.cell?_spot (hcell 0 (by omega))
      subst hspot
      refine ⟨b, off, rfl, fun i x hx => ?_⟩
      have hi : i < len := by rw [← hlen]; exact (List.getElem?_eq_some_iff.1 hx).1
      have := hcell i (by omega)
      rw [add_plain9] at this
      rw [this, List.getD_eq_getElem?_getD]
      rw [List.getElem?_map, List.getElem?_take_of_lt hi] at hx
      cases hzi : zs[i]? with
      | none => rw [hzi] at hx; cases hx
      | some s =>
        rw [hzi] at hx
        injection hx with hx
        subst hx
        cases s; simp
    · obtain ⟨s, hs, rfl⟩ := List.mem_map.1 hl
      have h1 := hwz s (List.mem_of_mem_take hs)
      have h2 : s.data.toList.length = s.size := by rw [Array.length_toList]; rfl
      unfold maxLen at h1; omega
    · unfold maxLen at hm; omega
/-- the variables that are listed, the handle apart -/
noncomputable abbrev progsLaid : List (String × DataW Unit) := Rows.asmProgramsRow.laid.filter fun x => x.2.handleName?.isNone
/-- the door's own heap, the table that is pinned laid into it -/
noncomputable def doorProgs (os : Os) : World := (World.doorLaid Tryz.prog 279 os).layVars Tryz.prog (progsLaid.filter fun x => ["unicode/utf8.first"].contains x.1)
theorem doorProgs_os (os : Os) : (doorProgs os).os = os := (World.layVars_os _ _ _).trans rfl
noncomputable abbrev doorBlocks (os : Os) : List Nat := (List.range (World.doorLaid Tryz.prog 279 os).heap.size).filter (· != 17)
/-- It meets the condition. -/
theorem progs_met (os : Os) (args : Array Value) : laidMetH Tryz.prog Rows.asmProgramsRow.laid ((doorProgs os).forCall (fun _ _ => 0) ⟨#[], args, []⟩).memory :=
  laidMetH_of_parts3 (fuel := 8) (laidMet_layVars (w0 := World.doorLaid Tryz.prog 279 os) (w' := ((doorProgs os).forCall (fun _ _ => 0) ⟨#[], args, []⟩).memory) ["unicode/utf8.first"] (doorBlocks os) (by simp [World.memory, World.forCall, Input.heap, doorProgs]) (by kernel_rfl) (by kernel_rfl)
    (LaidIn.of_run (doorBlocks os) 8 (by kernel_rfl) (by kernel_rfl) (by kernel_rfl) (by kernel_rfl))) (by kernel_rfl) (by kernel_rfl)
set_option maxRecDepth 100000 in
theorem progs_lifted (os : Os) (started : os.Started) (H : Type) (enc : TypeId × Value → H) :
    ReturnsInHanded {} Tryz.checked os 4 .any (fun w args => (Rows.asmProgramsSpec.pre enc Tryz.prog Tryz.f4 [] false w args ∧ laidMetH Tryz.prog Rows.asmProgramsRow.laid w) ∧ sizedMet enc Tryz.prog Tryz.f4 (OpenSpec.ofChange Rows.asmProgramsSpec) false w args)
      (Rows.asmProgramsSpec.post enc Tryz.prog Tryz.f4 false true false false) := by
  refine returns_and_shaped (C := Tryz.checked) (X := fun w _ => laidMetH Tryz.prog Rows.asmProgramsRow.laid w) (fun _ _ _ hh h => h.of_heap hh) Tryz.own started (by kernel_rfl) Tryz.func4
    (ChangeSpec.witness_shaped (enc := enc) (C := Tryz.checked) (os := os) (X := fun w _ => laidMetH Tryz.prog Rows.asmProgramsRow.laid w) false (doorProgs os) #[.slice none 0 0, .int .u32 0] 8 (doorProgs_os os) (World.shaped_of_ZipB (by kernel_rfl) (by kernel_rfl)) (by kernel_rfl) (by kernel_rfl) (by kernel_rfl) (progs_met os _)) ?_
  intro W base args ds gs before hval0 hW hL hsh
  have hval : ∀ (j : Nat) t v, Tryz.f4.params[j]? = some t → args[j]? = some v → Value.okWide Tryz.prog W .any base t v := hval0
  have hW' := hW
  obtain ⟨p, q, hA0, hV, rfl, hfz, hnd⟩ := hW
  have hA : DataW.TrodAll enc Tryz.prog W 0 (fun _ => true) true Tryz.f4.params.toList args.toList ds p := hA0
  rw [Tryz.params4] at hA hval
  obtain ⟨v0, vs0, d0, ds0, p0, q0, hargs, rfl, rfl, h0, r0⟩ := trodAll_cons hA
  obtain ⟨v1, vs1, d1, ds1, p1, q1, rfl, rfl, rfl, h1, r1⟩ := trodAll_cons r0
  obtain ⟨rfl, rfl, rfl⟩ := trodAll_nil r1
  obtain rfl : args = #[v0, v1] := by cases args; simp_all
  obtain ⟨rfl, rfl⟩ := trodVars_none hV
  obtain ⟨ao, cap, ls, hv0, X, hs, hlen⟩ := strs_of (hval 0 39 v0 rfl rfl) h0
  obtain ⟨c, rfl, rfl, rfl, kc⟩ := open_int Tryz.underlying22 (hval 1 22 v1 rfl rfl) h1
  clear hA0 hval0
  have bc := bd_u32 kc
  obtain ⟨S, EE, T, L⟩ := all_of_laid (W := W) _ _ _ _ hL.1 hL.2 hsh
  simp only [List.append_nil] at hW'
  have hlt : ∀ x ∈ p0, x.block < W.heap.size := fun x hx => by simpa using hW'.lt x hx
  have e1 : Rows.asmProgramsSpec.fn H ([d0, .lit (.int .u32 c)] ++ []) = { results := [.lit (.bool true)], args := [d0, .lit (.int .u32 c)] } := by simp [Rows.asmProgramsSpec]
  have hcall := asmPrograms_any S EE T L (cap := cap) X hs hlen c bc.1 bc.2
  rw [← hv0] at hcall
  refine hcall.mono fun e W' ⟨he, hb⟩ => ?_
  subst he
  refine ⟨_, rfl, _, _, _, [], p0, [], hW', ?_, ?_, ?_, hb.frame _, fun h => by cases h⟩
  · rw [e1]; exact trodAll_mk1 (shut_bool Tryz.underlying4 true)
  · have t := trodAll_cons_mk (Below.trod Tryz.laidOut (by kernel_rfl) (of_decide_eq_true (by kernel_rfl)) h0 hb hlt) (trodAll_cons_mk (shut_int (base := 0) (spare := fun b => decide (b < W.heap.size)) (held := true) (w := W') (enc := enc) Tryz.underlying22 kc) trodAll_mk0)
    simp only [List.append_nil] at t
    rw [e1]; exact t
  · rw [e1]; rfl
theorem progs_holds : Rows.AsmProgramsSaid :=
  OpenClaim.holds_of_wide 4 Tryz.f4 rfl rfl rfl rfl rfl rfl rfl ⟨rfl, rfl, rfl, rfl, rfl⟩ rfl rfl rfl rfl rfl (by kernel_rfl) Tryz.func4 (by kernel_rfl)
    (of_decide_eq_true (by kernel_rfl)) (by unfold Func.isWrapper; first | (rw [if_pos (by decide +kernel)]; kernel_rfl) | (rw [if_neg (by decide +kernel)]; exact ⟨rfl, rfl⟩))
    (fun os started H enc _ => progs_lifted os started H enc)
theorem progs_card : Rows.AsmProgramsCardSaid :=
  Claim7.holds_tied_plain_at .later [] [.data, .data, .data, .data, .handle, .sentinel, .sentinel, .sentinel, .sentinel, .sentinel, .sentinel, .sentinel, .sentinel, .sentinel, .sentinel, .data, .sentinel, .sentinel, .data, .pinned] true (true, "b9958ec5cc5b9cb7ab83235c5ead67fbd5443e2c447d455ca370cdedcad2b8fe") true
    progs_holds (fun _ h => by cases h) (by kernel_rfl) (fun _ h => by cases h) asmPrograms_row_tie rfl ⟨rfl, rfl⟩ (by kernel_rfl) rfl
    (fun f fn hf hfn => by
      obtain rfl : f = 4 := Option.some.inj ((show Tryz.prog.funcNamed "changeling/changelinglaw1.AsmPrograms" = some 4 by kernel_rfl).symm.trans hf) |>.symm
      obtain rfl : fn = Tryz.f4 := (Option.some.inj (Tryz.func4.symm.trans hfn)).symm
      exact ⟨by kernel_rfl, fun j t ht => by
        rw [Tryz.params4] at ht
        have hm : t ∈ [39, 22] := by simpa using Array.mem_of_getElem? ht
        have hall : ([39, 22].all fun u => !Tryz.prog.wantsStandIn u) = true := by kernel_rfl
        exact (show Tryz.prog.wantsStandIn t = false by simpa using List.all_eq_true.1 hall t hm)⟩)
    (by kernel_rfl)
#print axioms progs_card
end Go.Proofs.YtccnliihdhnckaaGreatDoor
