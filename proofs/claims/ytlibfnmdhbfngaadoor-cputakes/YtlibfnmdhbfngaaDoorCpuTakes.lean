/-
  The call CpuTakes(s, v, slot) returns true, for every state s, every word v and every truth value slot: an exception that is due is taken as the document says it, and the instruction behind it is left; the arguments read behind the call as before. Condition: the five errors of package api that it names, and the table of first words of package code, hold what the program's own text lays there (the card ties them to it).
-/
import Derived.Test.YtlibfnmdhbfngaaDoorLay
import Derived.Test.YtlibfnmdhbfngaaDoorTakes
import Derived.Test.YtlibfnmdhbfngaaDoorTie
import Derived.Test.YtlibfnmdhbfngaaDoorCards
import Derived.SevenTiedAt
namespace Go.Proofs.YtlibfnmdhbfngaaDoor
open Go.ChangeShapes Go.WideShapes Go.ChangeAt Go.RowKit
set_option linter.unusedVariables false
theorem c30 : Tryd.prog.cellsOf 30 = 32 := by kernel_rfl
theorem c32' : Tryd.prog.cellsOf 32 = 43 := by kernel_rfl
theorem c23' : Tryd.prog.cellsOf 23 = 1 := by kernel_rfl
theorem c4' : Tryd.prog.cellsOf 4 = 1 := by kernel_rfl
theorem c3' : Tryd.prog.cellsOf 3 = 1 := by kernel_rfl
theorem take_one {l : List Value} {k : Nat} {x : Value} (h : (l.drop k).take 1 = [x]) : l[k]? = some x := by
  have h2 : ((l.drop k).take 1)[0]? = some x := by rw [h]; rfl
  rw [List.getElem?_take_of_lt (by omega), List.getElem?_drop] at h2
  simpa using h2
def iv (v : Option Value) : Int := match v with | some (.int _ n) => n | _ => 0
def bv (v : Option Value) : Bool := match v with | some (.bool x) => x | _ => false
def stOf (cs : Array Value) : St := ⟨fun i => if i < 32 then iv cs[i]? else 0, iv cs[32]?, iv cs[33]?, iv cs[34]?, iv cs[35]?, bv cs[36]?, iv cs[37]?, iv cs[38]?, iv cs[39]?, iv cs[40]?, iv cs[41]?, iv cs[42]?⟩
theorem fields32' : (match Tryd.prog.underlying 32 with | some (.struct fs) => fs.toList.map (fun f => (f.type, f.offset)) | _ => []) = [(30, 0), (23, 32), (23, 33), (23, 34), (23, 35), (4, 36), (23, 37), (23, 38), (23, 39), (23, 40), (23, 41), (3, 42)] := by kernel_rfl
set_option maxRecDepth 100000 in
theorem open_st {H : Type} {enc : TypeId × Value → H} {W : World} {base : Nat} {sp : Nat → Bool} {held : Bool} {r : Reach} {b0 : Nat} {v : Value} {d : DataW H} {p : List MemPlace} (hv : Value.okWide Tryd.prog W r b0 32 v) (h : DataW.Trod enc Tryd.prog W base sp held 32 v d p) :
    ∃ S : St, v = .agg (stA S) ∧ (0 ≤ S.ct → S.ct ≤ 1099511627776 → S.ok) ∧ -9223372036854775808 ≤ S.ct ∧ S.ct ≤ 9223372036854775807 := by
  obtain ⟨cs, rfl, hsz⟩ := okWide_struct Tryd.underlying32 hv
  rw [c32'] at hsz
  obtain ⟨fuel, hf⟩ := h
  obtain ⟨xs, n, _, hx, hl, hlen, hg⟩ := DataW.trod_struct Tryd.underlying32 hf
  have hget : ∀ i (hi : i < 12), ∃ y, xs[i]? = some y := fun i hi => by
    have : i < xs.length := by rw [hlen]; exact hi
    exact ⟨_, List.getElem?_eq_getElem this⟩
  have word : ∀ (i o : Nat), (∃ y, DataW.trod enc Tryd.prog W base sp held n 23 ((cs.toList.drop o).take 1) = some y) → ∃ z : Int, cs[o]? = some (.int .u32 z) ∧ u32 z := by
    intro i o ⟨y, hy⟩
    obtain ⟨z, e, _, w⟩ := DataW.trod_int Tryd.underlying23 hy
    have := take_one e
    rw [Array.getElem?_toList] at this
    exact ⟨z, this, bd_u32 w⟩
  have hr : ∀ i, i < 32 → ∃ z : Int, cs[i]? = some (.int .u32 z) ∧ u32 z := by
    obtain ⟨y, hy⟩ := hget 0 (by omega)
    have g := hg 0 _ rfl
    rw [hy] at g
    obtain ⟨ys, m, _, _, _, hl2, hg2⟩ := DataW.trod_array Tryd.underlying30 g
    intro i hi
    have g2 := hg2 i hi
    have : i < ys.length := by rw [hl2]; exact hi
    rw [List.getElem?_eq_getElem this, c23', Nat.mul_one] at g2
    obtain ⟨z, e, _, w⟩ := DataW.trod_int Tryd.underlying23 g2
    have h1 := take_one e
    simp only [Value.cells] at h1
    rw [List.getElem?_take_of_lt (by show i < Tryd.prog.cellsOf 30; rw [c30]; exact hi)] at h1
    rw [List.getElem?_drop] at h1
    exact ⟨z, by simpa using h1, bd_u32 w⟩
  obtain ⟨z32, e32, b32⟩ : ∃ z : Int, cs[32]? = some (.int .u32 z) ∧ u32 z := by
    obtain ⟨y, hy⟩ := hget 1 (by omega)
    exact word 1 32 ⟨y, by have g := hg 1 _ rfl; rw [hy] at g; exact g⟩
  obtain ⟨z33, e33, b33⟩ : ∃ z : Int, cs[33]? = some (.int .u32 z) ∧ u32 z := by
    obtain ⟨y, hy⟩ := hget 2 (by omega)
    exact word 2 33 ⟨y, by have g := hg 2 _ rfl; rw [hy] at g; exact g⟩
  obtain ⟨z34, e34, b34⟩ : ∃ z : Int, cs[34]? = some (.int .u32 z) ∧ u32 z := by
    obtain ⟨y, hy⟩ := hget 3 (by omega)
    exact word 3 34 ⟨y, by have g := hg 3 _ rfl; rw [hy] at g; exact g⟩
  obtain ⟨z35, e35, b35⟩ : ∃ z : Int, cs[35]? = some (.int .u32 z) ∧ u32 z := by
    obtain ⟨y, hy⟩ := hget 4 (by omega)
    exact word 4 35 ⟨y, by have g := hg 4 _ rfl; rw [hy] at g; exact g⟩
  obtain ⟨z36, e36⟩ : ∃ z : Bool, cs[36]? = some (.bool z) := by
    obtain ⟨y, hy⟩ := hget 5 (by omega)
    have g := hg 5 _ rfl
    rw [hy] at g
    obtain ⟨z, e, _⟩ := DataW.trod_bool Tryd.underlying4 g
    have := take_one (l := cs.toList) (k := 36) e
    rw [Array.getElem?_toList] at this
    exact ⟨z, this⟩
  obtain ⟨z37, e37, b37⟩ : ∃ z : Int, cs[37]? = some (.int .u32 z) ∧ u32 z := by
    obtain ⟨y, hy⟩ := hget 6 (by omega)
    exact word 6 37 ⟨y, by have g := hg 6 _ rfl; rw [hy] at g; exact g⟩
  obtain ⟨z38, e38, b38⟩ : ∃ z : Int, cs[38]? = some (.int .u32 z) ∧ u32 z := by
    obtain ⟨y, hy⟩ := hget 7 (by omega)
    exact word 7 38 ⟨y, by have g := hg 7 _ rfl; rw [hy] at g; exact g⟩
  obtain ⟨z39, e39, b39⟩ : ∃ z : Int, cs[39]? = some (.int .u32 z) ∧ u32 z := by
    obtain ⟨y, hy⟩ := hget 8 (by omega)
    exact word 8 39 ⟨y, by have g := hg 8 _ rfl; rw [hy] at g; exact g⟩
  obtain ⟨z40, e40, b40⟩ : ∃ z : Int, cs[40]? = some (.int .u32 z) ∧ u32 z := by
    obtain ⟨y, hy⟩ := hget 9 (by omega)
    exact word 9 40 ⟨y, by have g := hg 9 _ rfl; rw [hy] at g; exact g⟩
  obtain ⟨z41, e41, b41⟩ : ∃ z : Int, cs[41]? = some (.int .u32 z) ∧ u32 z := by
    obtain ⟨y, hy⟩ := hget 10 (by omega)
    exact word 10 41 ⟨y, by have g := hg 10 _ rfl; rw [hy] at g; exact g⟩
  obtain ⟨z42, e42, b42⟩ : ∃ z : Int, cs[42]? = some (.int .i64 z) ∧ (-9223372036854775808 ≤ z ∧ z ≤ 9223372036854775807) := by
    obtain ⟨y, hy⟩ := hget 11 (by omega)
    have g := hg 11 _ rfl
    rw [hy] at g
    obtain ⟨z, e, _, w⟩ := DataW.trod_int Tryd.underlying3 g
    have := take_one (l := cs.toList) (k := 42) e
    rw [Array.getElem?_toList] at this
    exact ⟨z, this, bd_i64 w⟩
  refine ⟨stOf cs, ?_, fun h0 h1 => ?_, ?_, ?_⟩
  · congr 1
    apply Array.ext_getElem?
    intro j
    by_cases hj : j < 43
    · rw [stA_get _ hj]
      unfold stV
      by_cases h32 : j < 32
      · rw [if_pos h32]
        obtain ⟨z, e, _⟩ := hr j h32
        show cs[j]? = some (Value.int .u32 (if j < 32 then iv cs[j]? else 0))
        rw [if_pos h32, e]; rfl
      · rw [if_neg h32]
        have hj' : j = 32 ∨ j = 33 ∨ j = 34 ∨ j = 35 ∨ j = 36 ∨ j = 37 ∨ j = 38 ∨ j = 39 ∨ j = 40 ∨ j = 41 ∨ j = 42 := by omega
        rcases hj' with rfl | rfl | rfl | rfl | rfl | rfl | rfl | rfl | rfl | rfl | rfl <;> simp [stOf, e32, e33, e34, e35, e36, e37, e38, e39, e40, e41, e42, iv, bv]
    · rw [Array.getElem?_eq_none (by omega), Array.getElem?_eq_none (by rw [show (stA (stOf cs)).size = 43 by simp [stA, stL]]; omega)]
  · have h0' : 0 ≤ z42 := by simpa [stOf, e42, iv] using h0
    have h1' : z42 ≤ 1099511627776 := by simpa [stOf, e42, iv] using h1
    refine ⟨fun i => ?_, ?_, ?_, ?_, ?_, ?_, ?_, ?_, ?_, ?_, ?_, ?_⟩
    · show u32 (if i < 32 then iv cs[i]? else 0)
      split
      · rename_i hi
        obtain ⟨z, e, b⟩ := hr i hi
        rw [e]; exact b
      · exact ⟨by omega, by omega⟩
    · show u32 (iv cs[32]?); rw [e32]; exact b32
    · show u32 (iv cs[33]?); rw [e33]; exact b33
    · show u32 (iv cs[34]?); rw [e34]; exact b34
    · show u32 (iv cs[35]?); rw [e35]; exact b35
    · show u32 (iv cs[37]?); rw [e37]; exact b37
    · show u32 (iv cs[38]?); rw [e38]; exact b38
    · show u32 (iv cs[39]?); rw [e39]; exact b39
    · show u32 (iv cs[40]?); rw [e40]; exact b40
    · show u32 (iv cs[41]?); rw [e41]; exact b41
    · show _ ≤ iv cs[42]?; rw [e42]; show _ ≤ z42; omega
    · show iv cs[42]? < _; rw [e42]; show z42 < _; omega
  · show _ ≤ iv cs[42]?; rw [e42]; exact b42.1
  · show iv cs[42]? ≤ _; rw [e42]; exact b42.2
end Go.Proofs.YtlibfnmdhbfngaaDoor
namespace Go.Proofs.YtlibfnmdhbfngaaDoor
open Go.ChangeShapes Go.WideShapes Go.ChangeAt Go.RowKit
set_option linter.unusedVariables false
/-- The door's own heap meets the condition. -/
theorem takes_met (os : Os) (args : Array Value) : laidMetH Tryd.prog Rows.cpuTakesRow.laid ((World.doorLaid Tryd.prog 206 os).forCall (fun _ _ => 0) ⟨#[], args, []⟩).memory := by
  show laidMet _ _ _
  exact laidMet_of_run' 8 (by kernel_rfl) (by kernel_rfl)
set_option maxRecDepth 100000 in
theorem takes_lifted (os : Os) (started : os.Started) (H : Type) (enc : TypeId × Value → H) :
    ReturnsInHanded {} Tryd.checked os 4 .any (fun w args => (Rows.cpuTakesSpec.pre enc Tryd.prog Tryd.f4 [] false w args ∧ laidMetH Tryd.prog Rows.cpuTakesRow.laid w) ∧ sizedMet enc Tryd.prog Tryd.f4 (OpenSpec.ofChange Rows.cpuTakesSpec) false w args)
      (Rows.cpuTakesSpec.post enc Tryd.prog Tryd.f4 false true false false) := by
  refine returnsInHanded_of_change_and (C := Tryd.checked) (X := fun w _ => laidMetH Tryd.prog Rows.cpuTakesRow.laid w) (fun _ _ _ hh h => h.of_heap hh) Tryd.own started (by kernel_rfl) Tryd.func4
    (ChangeSpec.witness_shaped (enc := enc) (C := Tryd.checked) (os := os) (X := fun w _ => laidMetH Tryd.prog Rows.cpuTakesRow.laid w) false (World.doorLaid Tryd.prog 206 os) #[.agg #[.int .u32 0, .int .u32 0, .int .u32 0, .int .u32 0, .int .u32 0, .int .u32 0, .int .u32 0, .int .u32 0, .int .u32 0, .int .u32 0, .int .u32 0, .int .u32 0, .int .u32 0, .int .u32 0, .int .u32 0, .int .u32 0, .int .u32 0, .int .u32 0, .int .u32 0, .int .u32 0, .int .u32 0, .int .u32 0, .int .u32 0, .int .u32 0, .int .u32 0, .int .u32 0, .int .u32 0, .int .u32 0, .int .u32 0, .int .u32 0, .int .u32 0, .int .u32 0, .int .u32 0, .int .u32 0, .int .u32 0, .int .u32 0, .bool false, .int .u32 0, .int .u32 0, .int .u32 0, .int .u32 0, .int .u32 0, .int .i64 0], .int .u32 0, .bool false] 8 rfl (World.shaped_of_RefB (by kernel_rfl) (by kernel_rfl)) (by kernel_rfl) (by kernel_rfl) (by kernel_rfl) (takes_met os _)) ?_
  intro W base args ds gs before hval0 hW _ _ hL _
  have hval : ∀ (j : Nat) t v, Tryd.f4.params[j]? = some t → args[j]? = some v → Value.okWide Tryd.prog W .any base t v := hval0
  have hW' := hW
  obtain ⟨p, q, hA0, hV, rfl, hfz, hnd⟩ := hW
  have hA : DataW.TrodAll enc Tryd.prog W 0 (fun _ => true) true Tryd.f4.params.toList args.toList ds p := hA0
  rw [Tryd.params4] at hA hval
  obtain ⟨v0, vs0, d0, ds0, p0, q0, hargs, rfl, rfl, h0, r0⟩ := trodAll_cons hA
  obtain ⟨v1, vs1, d1, ds1, p1, q1, rfl, rfl, rfl, h1, r1⟩ := trodAll_cons r0
  obtain ⟨v2, vs2, d2, ds2, p2, q2, rfl, rfl, rfl, h2, r2⟩ := trodAll_cons r1
  obtain ⟨rfl, rfl, rfl⟩ := trodAll_nil r2
  obtain rfl : args = #[v0, v1, v2] := by cases args; simp_all
  obtain ⟨rfl, rfl⟩ := trodVars_none hV
  obtain ⟨S, rfl, hok, k0, k1⟩ := open_st (hval 0 32 v0 rfl rfl) h0
  obtain ⟨a1, rfl, rfl, rfl, w1⟩ := open_int Tryd.underlying23 (hval 1 23 v1 rfl rfl) h1
  obtain ⟨a2, rfl, rfl, rfl⟩ := open_bool Tryd.underlying4 (hval 2 4 v2 rfl rfl) h2
  clear hA0 hval0
  obtain ⟨c0, c1⟩ := bd_u32 w1
  obtain ⟨ps, pa, pf, pk, pb, E, T⟩ := all_of_laid (W := W) hL
  simp only [List.append_nil] at hW'
  have hlt : ∀ x ∈ p0, x.block < W.heap.size := fun x hx => by simpa using hW'.lt x (by simpa using hx)
  have e1 : Rows.cpuTakesSpec.fn H ([d0, .lit (.int .u32 a1), .lit (.bool a2)] ++ []) = { results := [.lit (.bool true)], args := [d0, .lit (.int .u32 a1), .lit (.bool a2)] } := by simp [Rows.cpuTakesSpec]
  refine (takes_any ps pa pf pk pb E T S hok k0 k1 a1 c0 c1 a2).mono fun e W' ⟨he, hb⟩ => ?_
  subst he
  refine ⟨_, rfl, _, _, _, [], p0, [], hW', ?_, ?_, ?_, hb.frame _, fun h => by cases h⟩
  · rw [e1]; exact trodAll_mk1 (shut_bool Tryd.underlying4 true)
  · have t := trodAll_cons_mk (Below.trod Tryd.laidOut (by kernel_rfl) (of_decide_eq_true (by kernel_rfl)) h0 hb (fun x hx => hlt x hx)) (trodAll_cons_mk (shut_int Tryd.underlying23 w1) (trodAll_cons_mk (shut_bool Tryd.underlying4 a2) trodAll_mk0))
    simp only [List.append_nil] at t
    rw [e1]; exact t
  · rw [e1]; rfl
theorem takes_holds : Rows.CpuTakesSaid :=
  OpenClaim.holds_of_wide 4 Tryd.f4 rfl rfl rfl rfl rfl rfl rfl ⟨rfl, rfl, rfl, rfl, rfl⟩ rfl rfl rfl rfl rfl (by kernel_rfl) Tryd.func4 (by kernel_rfl)
    (of_decide_eq_true (by kernel_rfl)) (by unfold Func.isWrapper; first | (rw [if_pos (by decide +kernel)]; kernel_rfl) | (rw [if_neg (by decide +kernel)]; exact ⟨rfl, rfl⟩))
    (fun os started H enc _ => takes_lifted os started H enc)
theorem takes_card : Rows.CpuTakesCardSaid :=
  Claim7.holds_tied_plain_at .later [] [.sentinel, .sentinel, .sentinel, .sentinel, .sentinel, .data] true (true, "511c02195fb55b88d89bd45dfd410316558a505ba854499d6c83962c86e011e3") false
    takes_holds (fun _ h => by cases h) (by kernel_rfl) (fun _ h => by cases h) cpuTakes_row_tie rfl ⟨rfl, rfl⟩ (by kernel_rfl) rfl
    (fun f fn hf hfn => by
      obtain rfl : f = 4 := Option.some.inj ((show Tryd.prog.funcNamed "changeling/changelinglaw2.CpuTakes" = some 4 by kernel_rfl).symm.trans hf) |>.symm
      obtain rfl : fn = Tryd.f4 := (Option.some.inj (Tryd.func4.symm.trans hfn)).symm
      exact ⟨by kernel_rfl, fun j t ht => by
        rw [Tryd.params4] at ht
        have hm : t ∈ [32, 23, 4] := by simpa using Array.mem_of_getElem? ht
        have hall : ([32, 23, 4].all fun u => !Tryd.prog.wantsStandIn u) = true := by kernel_rfl
        exact (show Tryd.prog.wantsStandIn t = false by simpa using List.all_eq_true.1 hall t hm)⟩)
    (by kernel_rfl)
#print axioms takes_card
end Go.Proofs.YtlibfnmdhbfngaaDoor
