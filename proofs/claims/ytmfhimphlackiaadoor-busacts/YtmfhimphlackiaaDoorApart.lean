/-
  The walk of BusApart.
-/
import Derived.Test.YtmfhimphlackiaaDoorActs
import Derived.Test.YtmfhimphlackiaaDoorBusTold
namespace Go.Proofs.YtmfhimphlackiaaDoor
open Go.RowKit Go.Maps
open Num
set_option linter.unusedVariables false
theorem new_ex2 {w : World} {v : Value} {xs : List Int} (X : WordsIn w v xs) (hx : xs.length ≤ 5000) :
    Calls Tryd.prog 9 #[v] w fun e w' => ∃ sb bp bw bh : Nat, e = .returned (.pointer (some ⟨sb, 0, none⟩)) ∧ RamIs w' sb bp bw bh 64 (mw xs) (fun _ => false) (fun _ => false) ∧ Below w.heap.size w w' ∧ w.heap.size ≤ sb ∧ w.heap.size ≤ bp ∧ w.heap.size ≤ bw ∧ w.heap.size ≤ bh :=
  (new_any X hx).mono fun e w' ⟨h1, h2, h3⟩ => ⟨_, _, _, _, h1, h2, h3, by omega, by omega, by omega, by omega⟩
theorem no_block (k B : Nat) (h : (Value.slice none 0 0).ownBlock = some k) : B ≤ k := by simp [Value.ownBlock] at h
theorem out65 : outS [65] = ⟨#[65]⟩ := by rfl
theorem words_nil (w : World) : WordsIn w (.slice none 0 0) [] := ⟨⟨none, 0, rfl, Nat.le_refl _, fun h => absurd h (by simp)⟩, mw_wf [] (by simp)⟩
set_option maxRecDepth 100000 in
set_option maxHeartbeats 1000000 in
theorem bused_any (w : World) : Calls Tryd.prog 25 #[] w fun e w' => e = .returned (.bool true) ∧ Below w.heap.size w w' := by
  have hnw := newBus_any (words_nil w) (by simp)
  go_enter Tryd.func25, Tryd.ntmps25
  go_wp2_with fail
  refine hnw.mono ?_
  rintro e w1 ⟨bb, sb, bp, bw, bh, rfl, NB, hb1, l1, l2, l3⟩
  clear hnw
  have hst := store_dev NB.is 65536 4 65 9 (by omega) (by omega) (by omega) (by omega) (by omega) (by omega) (by omega) (by omega) (by simp) (by simp) (by decide)
  clear NB
  go_wp2_with fail
  refine hst.mono ?_
  rintro e w2 ⟨rfl, vo, vt, B2, T2, M1, M2⟩
  clear hst
  have hb2 : Below w.heap.size w w2 := T2.below (base := 0) hb1 (Nat.le_refl _) l1 l2 l3 (fun k h => no_block k _ h) (fun k h => no_block k _ h)
  have hou := output_any B2
  rw [show outN [] 65536 65 = [65] by decide, out65] at hou
  have htr := trace_any B2 (by simp)
  have B2H : Hid (BusIs w2 w1.heap.size bb sb bp bw bh 64 (mw []) (fun _ => false) (fun _ => false) (outN [] 65536 65) (lampN 0 65536 65) ([] ++ [⟨9, true, 65536, 65⟩]) vo vt) := B2
  clear B2 T2 M1 M2
  go_wp2_with fail
  refine hou.mono ?_
  rintro e w3 ⟨rfl, rfl⟩
  clear hou
  go_wp2_with fail
  refine htr.mono ?_
  rintro e w4 ⟨ao, cap, rfl, O4, hb4⟩
  clear htr O4
  have B4 := B2H.out.stays hb4
  have hb4' : Below w.heap.size w w4 := hb2.trans (hb4.mono hb2.size)
  have htr := trace_any B4 (by simp)
  clear B4 B2H hb2 hb4
  go_wp2_with fail
  refine htr.mono ?_
  rintro e w5 ⟨ao5, cap5, rfl, O5, hb5⟩
  clear htr
  obtain ⟨g, cap6, he⟩ := owns_pos O5
  injection he with e1 e2 e3
  subst e1
  have hc := O5.cells (g := g) rfl 0 _ rfl
  rw [add_lit] at hc
  have hb5' : Below w.heap.size w w5 := hb4'.trans (hb5.mono hb4'.size)
  clear O5 hb4' hb5
  go_wp2
  go_ret
  exact ⟨rfl, hb5'⟩
end Go.Proofs.YtmfhimphlackiaaDoor
