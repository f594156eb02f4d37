/-
  slices.Clone of ops.
-/
import Derived.Test.YtcccaejjhodnkaaDoorOptRev
import Derived.Lib.BufferMore
namespace Go.Proofs.YtcccaejjhodnkaaDoor
open Go.RowKit Go.Maps
open Num
set_option linter.unusedVariables false
theorem rw_of_row {w : World} {base cap n g : Nat} {l : List Opx} (h : w.ownsRow base 60 6 (.slice (some ⟨g, 0, none⟩) n cap) l.length (opL l)) : OpsRw w g l := by
  obtain ⟨h1, h2⟩ := h
  rcases h2 with ⟨hv, _⟩ | ⟨g', cap', cur, hv, hb, hg, r1, r2, r3, r4⟩
  · cases hv
  · cases hv
    refine ⟨fun i o hi j u hj => ?_, fun j => by simp [World.frozen?, hg]⟩
    rw [cell_of_row _ _ _ _ _ _ hg]
    have hin : i < l.length := (List.getElem?_eq_some_iff.1 hi).1
    have hj6 : j < 6 := (List.getElem?_eq_some_iff.1 hj).1
    have : (opL l)[i * 6 + j]? = some u := by rw [opL_get l i o j hi hj6]; exact hj
    rw [← r4, List.getElem?_take, if_pos (by omega)] at this
    rw [← Array.getElem?_toList]; exact this
set_option maxRecDepth 100000 in
set_option maxHeartbeats 2000000 in
theorem clone_any {w : World} {v : Value} {l : List Opx} (A : OpsIn w v l) (hl : l.length ≤ 1000000) (hpos : 0 < l.length) :
    Calls Tryd.prog 64 #[v] w fun e w' => ∃ g cap, e = .returned (.slice (some ⟨g, 0, none⟩) l.length cap) ∧ l.length ≤ cap ∧ OpsRw w' g l ∧ w.heap.size ≤ g ∧ Below w.heap.size w w' := by
  obtain ⟨ao, cap, rfl, hc, hh⟩ := A.sh
  obtain ⟨b, off, rfl, hcell⟩ := hh hpos
  obtain ⟨i0, hi, iz0, iz1, iz2⟩ := info_parts infoOp
  have hnews0 : ∀ j u, (opL l)[j]? = some u → w.cell? ((⟨b, off, none⟩ : Addr).add j) = some u := opL_at hcell
  have hq := fun w => Go.Lib.run_eql_slice_some_nil (P := Tryd.prog) w (t := 22) (e := 60) ⟨b, off, none⟩ l.length cap Tryd.underlying22
  have hO : (w.alloc (.cells #[] 60)).ownsRow w.heap.size 60 6 (.slice (some ⟨w.heap.size, 0, none⟩) 0 0) 0 [] := ⟨rfl, .inr ⟨w.heap.size, 0, #[], rfl, Nat.le_refl _, heap_alloc_new w _, Nat.le_refl _, Nat.zero_le _, rfl, rfl⟩⟩
  have hnews : ∀ j u, (opL l)[j]? = some u → (w.alloc (.cells #[] 60)).cell? ((⟨b, off, none⟩ : Addr).add j) = some u := fun j u hj => (World.grownBy_alloc w _ none).cell (hnews0 j u hj) (by simp)
  clear A hh hcell
  go_enter Tryd.func64, Tryd.ntmps64
  go_wp2_with (at_builtin; refine wpList_append_moved rfl _ _ 22 rfl w.heap.size 60 i0 _ 6 56 Tryd.underlying22 hi iz0 iz1 iz2 rfl (by decide) (.slice (some ⟨w.heap.size, 0, none⟩) 0 0) 0 [] rfl hO ⟨b, off, none⟩ l.length cap (opL l) rfl (opL_len l) hnews (opL_one l) (by unfold maxLen; omega) (by omega) (by simp) ?_; intro v' w3 ho hg hm)
  go_ret
  rw [Nat.zero_add, List.nil_append] at ho
  obtain ⟨n, hn⟩ : ∃ n, l.length = n + 1 := ⟨l.length - 1, by omega⟩
  have ho' := ho
  rw [hn] at ho'
  obtain ⟨g, cap', hv, hge⟩ := own_posg ho'
  rw [← hn] at hv
  subst hv
  refine ⟨g, cap', rfl, ?_, rw_of_row ho, hge, ((Below.refl _ w).alloc (Nat.le_refl _) _).grown hg (by simp) (fun k e => by have : w.heap.size = k := Option.some.inj e; omega)⟩
  rcases ho.2 with ⟨hv, _⟩ | ⟨_, _, _, hv, _, _, r1, _⟩
  · cases hv
  · cases hv; exact r1
end Go.Proofs.YtcccaejjhodnkaaDoor
