/-
  slices.Reverse and slices.Clone of ops.
-/
import Derived.Lib.BufferMore
import Derived.Test.YtcccaejjhodnkabGreatDoorKSerial
import Derived.Test.YtcccaejjhodnkabGreatDoorQOwnOps
import Derived.Test.YtcccaejjhodnkabGreatDoorKValBd
namespace Go.Proofs.YtcccaejjhodnkabGreatDoor
open Go.RowKit Go.Maps
open Num
set_option linter.unusedVariables false
/-- ops of which the first i and the last i have changed places -/
structure RevAt (l L : List Opx) (i : Nat) : Prop where
  len : L.length = l.length
  h : 2 * i ≤ l.length + 1
  at' : ∀ k, k < l.length → L[k]? = if k < i ∨ l.length ≤ k + i then l[l.length - 1 - k]? else l[k]?
theorem RevAt.done {l L : List Opx} {i : Nat} (R : RevAt l L i) (h : l.length ≤ 2 * i + 1) : L = l.reverse := by
  apply List.ext_getElem?
  intro k
  by_cases hk : k < l.length
  · rw [R.at' k hk, List.getElem?_reverse hk]
    by_cases hc : k < i ∨ l.length ≤ k + i
    · rw [if_pos hc]
    · rw [if_neg hc, show l.length - 1 - k = k by omega]
  · rw [List.getElem?_eq_none (by rw [R.len]; omega), List.getElem?_eq_none (by simp; omega)]
theorem RevAt.next {l L : List Opx} {i : Nat} (R : RevAt l L i) (hi : 2 * i + 1 < l.length) {x y : Opx} (hx : L[i]? = some x) (hy : L[l.length - 1 - i]? = some y) : RevAt l ((L.set i y).set (l.length - 1 - i) x) (i + 1) := by
  have hx' := R.at' i (by omega)
  have hy' := R.at' (l.length - 1 - i) (by omega)
  rw [hx, if_neg (by omega)] at hx'
  rw [hy, if_neg (by omega)] at hy'
  refine ⟨by simp [R.len], by omega, fun k hk => ?_⟩
  rw [List.getElem?_set, List.getElem?_set]
  simp only [List.length_set]
  by_cases h1 : l.length - 1 - i = k
  · rw [if_pos h1, if_pos (by rw [R.len]; omega), if_pos (by omega), ← h1, show l.length - 1 - (l.length - 1 - i) = i by omega]; exact hx'
  · rw [if_neg h1]
    by_cases h2 : i = k
    · rw [if_pos h2, if_pos (by rw [R.len]; omega), if_pos (by omega), ← h2]; exact hy'
    · rw [if_neg h2, R.at' k hk]
      by_cases hc : k < i ∨ l.length ≤ k + i
      · rw [if_pos hc, if_pos (by omega)]
      · rw [if_neg hc, if_neg (by omega)]
theorem OpsRw.drew {w : World} {g : Nat} {l : List Opx} (R : OpsRw w g l) : OpsRw w.drew g l := ⟨R.c, R.fz⟩
/-- twelve cells of two ops -/
structure TwoO (W : World) (g a b : Nat) (x y : Opx) : Prop where
  x0 : W.cell? ⟨g, a, none⟩ = some (.string x.s)
  x1 : W.cell? ⟨g, a + 1, none⟩ = some (.int .i64 x.d)
  x2 : W.cell? ⟨g, a + 2, none⟩ = some (.int .i64 x.a)
  x3 : W.cell? ⟨g, a + 3, none⟩ = some (.int .i64 x.b)
  x4 : W.cell? ⟨g, a + 4, none⟩ = some (.int .u32 x.i)
  x5 : W.cell? ⟨g, a + 5, none⟩ = some (.int .i64 x.t)
  y0 : W.cell? ⟨g, b, none⟩ = some (.string y.s)
  y1 : W.cell? ⟨g, b + 1, none⟩ = some (.int .i64 y.d)
  y2 : W.cell? ⟨g, b + 2, none⟩ = some (.int .i64 y.a)
  y3 : W.cell? ⟨g, b + 3, none⟩ = some (.int .i64 y.b)
  y4 : W.cell? ⟨g, b + 4, none⟩ = some (.int .u32 y.i)
  y5 : W.cell? ⟨g, b + 5, none⟩ = some (.int .i64 y.t)
theorem OpsRw.six {w : World} {g i : Nat} {l : List Opx} {o : Opx} (R : OpsRw w g l) (h : l[i]? = some o) : w.cell? ⟨g, i * 6, none⟩ = some (.string o.s) ∧ w.cell? ⟨g, i * 6 + 1, none⟩ = some (.int .i64 o.d) ∧ w.cell? ⟨g, i * 6 + 2, none⟩ = some (.int .i64 o.a) ∧ w.cell? ⟨g, i * 6 + 3, none⟩ = some (.int .i64 o.b) ∧ w.cell? ⟨g, i * 6 + 4, none⟩ = some (.int .u32 o.i) ∧ w.cell? ⟨g, i * 6 + 5, none⟩ = some (.int .i64 o.t) :=
  ⟨R.c i o h 0 _ rfl, R.c i o h 1 _ rfl, R.c i o h 2 _ rfl, R.c i o h 3 _ rfl, R.c i o h 4 _ rfl, R.c i o h 5 _ rfl⟩
end Go.Proofs.YtcccaejjhodnkabGreatDoor
/-
  slices.Clone of ops.
-/
namespace Go.Proofs.YtcccaejjhodnkabGreatDoor
open Go.RowKit Go.Maps
open Num
set_option linter.unusedVariables false
theorem rw_of_row {w : World} {base cap n g : Nat} {l : List Opx} (h : w.ownsRow base 64 6 (.slice (some ⟨g, 0, none⟩) n cap) l.length (opL l)) : OpsRw w g l := by
  obtain ⟨h1, h2⟩ := h
  rcases h2 with ⟨hv, _⟩ | ⟨g', cap', cur, hv, hb, hg, r1, r2, r3, r4⟩
  · cases hv
  · cases hv
    refine ⟨fun i o hi j u hj => ?_, fun j => by simp [World.frozen?, hg]⟩
    rw [cell_of_row _ _ _ _ _ _ hg]
    have hin : i < l.length := (List.getElem?_eq_some_iff.1 hi).1
    have hj6 : j < 6 := (List.getElem?_eq_some_iff.1 hj).1
    have : (opL l)[i * 6 + j]? = some u := by rw [opL_get l i o j hi hj6]; exact hj
    rw [← r4, List.getElem?_take, if_pos (by omega)] at this
    rw [← Array.getElem?_toList]; exact this
set_option maxRecDepth 100000 in
set_option maxHeartbeats 2000000 in
theorem clone_any {w : World} {v : Value} {l : List Opx} (A : OpsIn w v l) (hl : l.length ≤ 1000000) (hpos : 0 < l.length) :
    Calls Tryz.prog 47 #[v] w fun e w' => ∃ g cap, e = .returned (.slice (some ⟨g, 0, none⟩) l.length cap) ∧ l.length ≤ cap ∧ OpsRw w' g l ∧ w.heap.size ≤ g ∧ Below w.heap.size w w' := by
  obtain ⟨ao, cap, rfl, hc, hh⟩ := A.sh
  obtain ⟨b, off, rfl, hcell⟩ := hh hpos
  obtain ⟨i0, hi, iz0, iz1, iz2⟩ := info_parts infoOp
  have hnews0 : ∀ j u, (opL l)[j]? = some u → w.cell? ((⟨b, off, none⟩ : Addr).add j) = some u := opL_at hcell
  have hq := fun w => Go.Lib.run_eql_slice_some_nil (P := Tryz.prog) w (t := 40) (e := 64) ⟨b, off, none⟩ l.length cap Tryz.underlying40
  have hO : (w.alloc (.cells #[] 64)).ownsRow w.heap.size 64 6 (.slice (some ⟨w.heap.size, 0, none⟩) 0 0) 0 [] := ⟨rfl, .inr ⟨w.heap.size, 0, #[], rfl, Nat.le_refl _, heap_alloc_new w _, Nat.le_refl _, Nat.zero_le _, rfl, rfl⟩⟩
  have hnews : ∀ j u, (opL l)[j]? = some u → (w.alloc (.cells #[] 64)).cell? ((⟨b, off, none⟩ : Addr).add j) = some u := fun j u hj => (World.grownBy_alloc w _ none).cell (hnews0 j u hj) (by simp)
  clear A hh hcell
  go_enter Tryz.func47, Tryz.ntmps47
  go_wp2_with (at_builtin; refine wpList_append_moved rfl _ _ 40 rfl w.heap.size 64 i0 _ 6 56 Tryz.underlying40 hi iz0 iz1 iz2 rfl (by decide) (.slice (some ⟨w.heap.size, 0, none⟩) 0 0) 0 [] rfl hO ⟨b, off, none⟩ l.length cap (opL l) rfl (opL_len l) hnews (opL_one l) (by unfold maxLen; omega) (by omega) (by simp) ?_; intro v' w3 ho hg hm)
  go_ret
  rw [Nat.zero_add, List.nil_append] at ho
  obtain ⟨n, hn⟩ : ∃ n, l.length = n + 1 := ⟨l.length - 1, by omega⟩
  have ho' := ho
  rw [hn] at ho'
  obtain ⟨g, cap', hv, hge⟩ := own_posg ho'
  rw [← hn] at hv
  subst hv
  refine ⟨g, cap', rfl, ?_, rw_of_row ho, hge, ((Below.refl _ w).alloc (Nat.le_refl _) _).grown hg (by simp) (fun k e => by have : w.heap.size = k := Option.some.inj e; omega)⟩
  rcases ho.2 with ⟨hv, _⟩ | ⟨_, _, _, hv, _, _, r1, _⟩
  · cases hv
  · cases hv; exact r1
end Go.Proofs.YtcccaejjhodnkabGreatDoor
