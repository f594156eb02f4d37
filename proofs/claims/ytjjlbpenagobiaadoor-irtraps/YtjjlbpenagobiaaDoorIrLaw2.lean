/-
  The statements' own functions: OwnOps, longPlace, placed, memory.
-/
import Derived.Test.YtjjlbpenagobiaaDoorIrLaw
import Derived.Deep.MidRow
namespace Go.Proofs.YtjjlbpenagobiaaDoor
open Go.RowKit Go.Maps
open Num
set_option linter.unusedVariables false
/-- what the cells of a place hold -/
def plV (S : St) (v : Value) (wc : Int) (j : Nat) : Value := if j < 43 then stV S j else if j = 43 then v else .int .i64 wc
def plA (S : St) (v : Value) (wc : Int) : Array Value := ((List.range 45).map (plV S v wc)).toArray
theorem plA_size (S : St) (v : Value) (wc : Int) : (plA S v wc).size = 45 := by simp [plA]
theorem plA_get (S : St) (v : Value) (wc : Int) (j : Nat) (h : j < 45) : (plA S v wc)[j]? = some (plV S v wc j) := by
  unfold plA; rw [List.getElem?_toArray, List.getElem?_map, List.getElem?_range h]; rfl
theorem pl_row (w : World) (S : St) (v : Value) (wc : Int) : RowIs (w.alloc (.cells (plA S v wc) 29)) w.heap.size 29 45 (plV S v wc) :=
  ⟨_, heap_alloc_new w _, plA_size _ _ _, fun j hj => plA_get _ _ _ j hj⟩
/-- is a place too long for a statement? -/
def longP (xs : List Int) (S : St) : Bool := decide (200 < xs.length) || decide (S.ct < 0) || decide (1099511627776 < S.ct)
set_option maxRecDepth 100000 in
set_option maxHeartbeats 2000000 in
theorem longPlace_any (w : World) (S : St) (ao : Option Addr) (xs : List Int) (cap : Nat) (wc : Int) :
    Calls Tryd.prog 6 #[.agg (plA S (.slice ao xs.length cap) wc)] w fun e w' => e = .returned (.bool (longP xs S)) ∧ Below w.heap.size w w' := by
  have hrow := pl_row w S (.slice ao xs.length cap) wc
  have k43 : (w.alloc (.cells (plA S (.slice ao xs.length cap) wc) 29)).cell? ⟨w.heap.size, 43, none⟩ = some (.slice ao xs.length cap) := hrow.cell (by omega)
  have k42 : (w.alloc (.cells (plA S (.slice ao xs.length cap) wc) 29)).cell? ⟨w.heap.size, 42, none⟩ = some (.int .i64 S.ct) := hrow.cell (j := 42) (by omega)
  have hB : Hid (Below w.heap.size w (w.alloc (.cells (plA S (.slice ao xs.length cap) wc) 29))) := (Below.refl _ _).alloc (Nat.le_refl _) _
  obtain ⟨r, hr⟩ : ∃ r, longP xs S = r := ⟨_, rfl⟩
  have HR : Hid (longP xs S = r) := hr
  rw [hr]
  clear hr hrow
  generalize plA S (.slice ao xs.length cap) wc = PA at *
  by_cases h1 : 200 < xs.length
  · have h1' : (200 : Int) < xs.length := by omega
    have h0 : Hid (r = true) := by show _ = _; rw [← HR.out]; unfold longP; simp [h1]
    go_enter Tryd.func6, Tryd.ntmps6
    go_wp2
    go_ret
    exact ⟨by rw [h0.out]; rfl, hB.out⟩
  have h1' : ¬ (200 : Int) < xs.length := by omega
  by_cases h2 : S.ct < 0
  · have h0 : Hid (r = true) := by show _ = _; rw [← HR.out]; unfold longP; simp [h2]
    go_enter Tryd.func6, Tryd.ntmps6
    go_wp2
    go_ret
    exact ⟨by rw [h0.out]; rfl, hB.out⟩
  by_cases h3 : 1099511627776 < S.ct
  · have h0 : Hid (r = true) := by show _ = _; rw [← HR.out]; unfold longP; simp [h3]
    go_enter Tryd.func6, Tryd.ntmps6
    go_wp2
    go_ret
    exact ⟨by rw [h0.out]; rfl, hB.out⟩
  · have h0 : Hid (r = false) := by show _ = _; rw [← HR.out]; unfold longP; simp [h1, h2, h3]
    go_enter Tryd.func6, Tryd.ntmps6
    go_wp2
    go_ret
    exact ⟨by rw [h0.out]; rfl, hB.out⟩
theorem WordsIn.stays {w w' : World} {v : Value} {xs : List Int} (X : WordsIn w v xs) (h : Below w.heap.size w w') : WordsIn w' v xs := by
  obtain ⟨⟨ao, cap, rfl, hc, hh⟩, wf⟩ := X
  refine ⟨⟨ao, cap, rfl, hc, fun hp => ?_⟩, wf⟩
  obtain ⟨b, off, e, hcl⟩ := hh hp
  exact ⟨b, off, e, fun i hi => by have := hcl i hi; rw [h.cell (World.block_lt_of_cell? _ _ this)]; exact this⟩
/-- the pages that a place watches -/
def wtP (wc : Int) : Int → Bool := if 0 ≤ wc ∧ wc < 64 then wtOn (fun _ => false) wc else fun _ => false
set_option maxRecDepth 100000 in
set_option maxHeartbeats 2000000 in
theorem memory_any (pe : Nat → Addr) {w : World} (E : Eg pe w) (S : St) {v : Value} {xs : List Int} (X : WordsIn w v xs) (hx : xs.length ≤ 200) (wc : Int) :
    Calls Tryd.prog 9 #[.agg (plA S v wc)] w fun e w' => ∃ sb bp bw bh : Nat, e = .returned (.pointer (some ⟨sb, 0, none⟩)) ∧ RamIs w' sb bp bw bh 65 (mw xs) (wtP wc) (fun _ => false) ∧ Below w.heap.size w w' ∧ w.heap.size ≤ sb ∧ w.heap.size ≤ bp ∧ w.heap.size ≤ bw ∧ w.heap.size ≤ bh := by
  obtain ⟨ao, cap, hv, _, _⟩ := X.sh
  subst hv
  have hrow := pl_row w S (.slice ao xs.length cap) wc
  have k43 : (w.alloc (.cells (plA S (.slice ao xs.length cap) wc) 29)).cell? ⟨w.heap.size, 43, none⟩ = some (.slice ao xs.length cap) := hrow.cell (by omega)
  have k44 : (w.alloc (.cells (plA S (.slice ao xs.length cap) wc) 29)).cell? ⟨w.heap.size, 44, none⟩ = some (.int .i64 wc) := hrow.cell (j := 44) (by omega)
  have hB : Hid (Below w.heap.size w (w.alloc (.cells (plA S (.slice ao xs.length cap) wc) 29))) := (Below.refl _ _).alloc (Nat.le_refl _) _
  have X1 := X.stays hB.out
  have E1 : Hid (Eg pe (w.alloc (.cells (plA S (.slice ao xs.length cap) wc) 29))) := E.stays hB.out
  have hz : w.heap.size < (w.alloc (.cells (plA S (.slice ao xs.length cap) wc) 29)).heap.size := by simp
  have hnew := new_any X1 (by omega)
  clear hrow E X
  generalize plA S (.slice ao xs.length cap) wc = PA at *
  go_enter Tryd.func9, Tryd.ntmps9
  go_wp2_with fail
  generalize w.alloc (.cells PA 29) = V at *
  refine hnew.mono ?_
  rintro e w1 ⟨rfl, R1, b1⟩
  have y44 : w1.cell? ⟨w.heap.size, 44, none⟩ = some (.int .i64 wc) := (b1.cell (p := ⟨w.heap.size, 44, none⟩) hz).trans k44
  have B1 : Hid (Below w.heap.size w w1) := hB.out.trans (b1.mono (by omega))
  have E2 : Hid (Eg pe w1) := E1.out.stays b1
  have RH : Hid (RamIs w1 V.heap.size (V.heap.size + 1) (V.heap.size + 2) (V.heap.size + 3) 64 (mw xs) (fun _ => false) (fun _ => false)) := R1
  clear R1 b1 hnew k43 k44 X1
  by_cases hwc : 0 ≤ wc ∧ wc < 64
  · go_wp2_with fail
    refine (watch_on RH.out (by omega) wc hwc.1 hwc.2 (by unfold maxLen; omega)).mono ?_
    rintro e w2 ⟨⟨x, rfl⟩, R2, hg2⟩
    go_wp2
    go_ret
    refine ⟨V.heap.size, V.heap.size + 1, V.heap.size + 2, V.heap.size + 3, rfl, ?_, ?_, by omega, by omega, by omega, by omega⟩
    · unfold wtP; rw [if_pos hwc]; exact R2
    · exact below_grown B1.out hg2 (by omega) (Nat.le_refl _)
  · go_wp2_with fail
    refine (watch_no pe E2.out _ wc (by omega)).mono ?_
    rintro e w2 ⟨⟨x, rfl⟩, rfl⟩
    go_wp2
    go_ret
    refine ⟨V.heap.size, V.heap.size + 1, V.heap.size + 2, V.heap.size + 3, rfl, ?_, B1.out, by omega, by omega, by omega, by omega⟩
    unfold wtP; rw [if_neg hwc]; exact RH.out.mono (by omega)
end Go.Proofs.YtjjlbpenagobiaaDoor
