/-
  slices.Reverse and slices.Clone of ops.
-/
import Derived.Test.YtcccaejjhodnkaaDoorOptWork
import Derived.Test.YtcccaejjhodnkaaDoorOwnOps
import Derived.Test.YtcccaejjhodnkaaDoorOptPass
namespace Go.Proofs.YtcccaejjhodnkaaDoor
open Go.RowKit Go.Maps
open Num
set_option linter.unusedVariables false
/-- ops of which the first i and the last i have changed places -/
structure RevAt (l L : List Opx) (i : Nat) : Prop where
  len : L.length = l.length
  h : 2 * i ≤ l.length + 1
  at' : ∀ k, k < l.length → L[k]? = if k < i ∨ l.length ≤ k + i then l[l.length - 1 - k]? else l[k]?
theorem RevAt.start (l : List Opx) : RevAt l l 0 := ⟨rfl, by omega, fun k hk => by rw [if_neg (by omega)]⟩
theorem RevAt.done {l L : List Opx} {i : Nat} (R : RevAt l L i) (h : l.length ≤ 2 * i + 1) : L = l.reverse := by
  apply List.ext_getElem?
  intro k
  by_cases hk : k < l.length
  · rw [R.at' k hk, List.getElem?_reverse hk]
    by_cases hc : k < i ∨ l.length ≤ k + i
    · rw [if_pos hc]
    · rw [if_neg hc, show l.length - 1 - k = k by omega]
  · rw [List.getElem?_eq_none (by rw [R.len]; omega), List.getElem?_eq_none (by simp; omega)]
theorem RevAt.next {l L : List Opx} {i : Nat} (R : RevAt l L i) (hi : 2 * i + 1 < l.length) {x y : Opx} (hx : L[i]? = some x) (hy : L[l.length - 1 - i]? = some y) : RevAt l ((L.set i y).set (l.length - 1 - i) x) (i + 1) := by
  have hx' := R.at' i (by omega)
  have hy' := R.at' (l.length - 1 - i) (by omega)
  rw [hx, if_neg (by omega)] at hx'
  rw [hy, if_neg (by omega)] at hy'
  refine ⟨by simp [R.len], by omega, fun k hk => ?_⟩
  rw [List.getElem?_set, List.getElem?_set]
  simp only [List.length_set]
  by_cases h1 : l.length - 1 - i = k
  · rw [if_pos h1, if_pos (by rw [R.len]; omega), if_pos (by omega), ← h1, show l.length - 1 - (l.length - 1 - i) = i by omega]; exact hx'
  · rw [if_neg h1]
    by_cases h2 : i = k
    · rw [if_pos h2, if_pos (by rw [R.len]; omega), if_pos (by omega), ← h2]; exact hy'
    · rw [if_neg h2, R.at' k hk]
      by_cases hc : k < i ∨ l.length ≤ k + i
      · rw [if_pos hc, if_pos (by omega)]
      · rw [if_neg hc, if_neg (by omega)]
theorem OpsRw.drew {w : World} {g : Nat} {l : List Opx} (R : OpsRw w g l) : OpsRw w.drew g l := ⟨R.c, R.fz⟩
theorem grown_drew {w w' : World} {r : Option Nat} (h : w.grownBy w' r) : w.grownBy w'.drew r := ⟨h.os, h.tape, h.output, h.size, h.block⟩
/-- twelve cells of two ops -/
structure TwoO (W : World) (g a b : Nat) (x y : Opx) : Prop where
  x0 : W.cell? ⟨g, a, none⟩ = some (.string x.s)
  x1 : W.cell? ⟨g, a + 1, none⟩ = some (.int .i64 x.d)
  x2 : W.cell? ⟨g, a + 2, none⟩ = some (.int .i64 x.a)
  x3 : W.cell? ⟨g, a + 3, none⟩ = some (.int .i64 x.b)
  x4 : W.cell? ⟨g, a + 4, none⟩ = some (.int .u32 x.i)
  x5 : W.cell? ⟨g, a + 5, none⟩ = some (.int .i64 x.t)
  y0 : W.cell? ⟨g, b, none⟩ = some (.string y.s)
  y1 : W.cell? ⟨g, b + 1, none⟩ = some (.int .i64 y.d)
  y2 : W.cell? ⟨g, b + 2, none⟩ = some (.int .i64 y.a)
  y3 : W.cell? ⟨g, b + 3, none⟩ = some (.int .i64 y.b)
  y4 : W.cell? ⟨g, b + 4, none⟩ = some (.int .u32 y.i)
  y5 : W.cell? ⟨g, b + 5, none⟩ = some (.int .i64 y.t)
theorem OpsRw.six {w : World} {g i : Nat} {l : List Opx} {o : Opx} (R : OpsRw w g l) (h : l[i]? = some o) : w.cell? ⟨g, i * 6, none⟩ = some (.string o.s) ∧ w.cell? ⟨g, i * 6 + 1, none⟩ = some (.int .i64 o.d) ∧ w.cell? ⟨g, i * 6 + 2, none⟩ = some (.int .i64 o.a) ∧ w.cell? ⟨g, i * 6 + 3, none⟩ = some (.int .i64 o.b) ∧ w.cell? ⟨g, i * 6 + 4, none⟩ = some (.int .u32 o.i) ∧ w.cell? ⟨g, i * 6 + 5, none⟩ = some (.int .i64 o.t) :=
  ⟨R.c i o h 0 _ rfl, R.c i o h 1 _ rfl, R.c i o h 2 _ rfl, R.c i o h 3 _ rfl, R.c i o h 4 _ rfl, R.c i o h 5 _ rfl⟩
set_option maxRecDepth 100000 in
set_option maxHeartbeats 4000000 in
theorem reverse_any {w : World} {g cap : Nat} {l : List Opx} (R : OpsRw w g l) (hl : (l.length : Int) ≤ 1000000) (hc : l.length ≤ cap) :
    Calls Tryd.prog 95 #[.slice (some ⟨g, 0, none⟩) l.length cap] w fun e w' => e = .returned (.tuple #[]) ∧ OpsRw w' g l.reverse ∧ w.grownBy w' (some g) := by
  have RH : Hid (OpsRw w g l) := R
  clear R
  go_enter Tryd.func95, Tryd.ntmps95
  go_wp2
  go_loopw [2, 3] (fun a b wr => ∃ (i : Nat) (L : List Opx), a = .int .i64 i ∧ b = .int .i64 ((l.length : Int) - 1 - i) ∧ RevAt l L i ∧ OpsRw wr g L ∧ w.grownBy wr (some g)) (fun a _ _ => l.length - (intOf a).toNat)
  case atStart => exact ⟨0, l, rfl, by simp, RevAt.start l, RH.out, grown_refl _ _⟩
  case round =>
    obtain ⟨i, L, rfl, rfl, hV, hR, hG⟩ := hrel
    have HV : Hid (RevAt l L i) := hV
    have HR : Hid (OpsRw wr g L) := hR
    have HG : Hid (w.grownBy wr (some g)) := hG
    have hi2 := hV.h
    have hL := hV.len
    clear hV hR hG RH
    by_cases hlt : 2 * i + 1 < l.length
    · obtain ⟨jn, hjn⟩ : ∃ jn : Nat, l.length - 1 - i = jn := ⟨_, rfl⟩
      have ej : (l.length : Int) - 1 - i = jn := by omega
      have hlt' : (i : Int) < jn := by omega
      have HJ : Hid (l.length - 1 - i = jn) := hjn
      obtain ⟨x, hx⟩ : ∃ x, L[i]? = some x := ⟨_, List.getElem?_eq_getElem (by omega)⟩
      obtain ⟨y, hy⟩ : ∃ y, L[jn]? = some y := ⟨_, List.getElem?_eq_getElem (by omega)⟩
      obtain ⟨x0, x1, x2, x3, x4, x5⟩ := HR.out.six hx
      obtain ⟨y0, y1, y2, y3, y4, y5⟩ := HR.out.six hy
      have hfz := HR.out.fz
      have q2 : (jn : Int) < l.length := by omega
      have q3 : (i : Int) < l.length := by omega
      have hgz : g < wr.heap.size := World.block_lt_of_cell? _ _ x0
      have R1 : Hid (OpsRw (put6 (put6 wr g (i * 6) y) g (jn * 6) x) g ((L.set i y).set jn x)) := (HR.out.put (by omega) y).put (by simp; omega) x
      have G1 : Hid (w.grownBy (put6 (put6 wr g (i * 6) y) g (jn * 6) x) (some g)) := grown_trans (grown_trans HG.out (put6_grown _ _ _ _)) (put6_grown _ _ _ _)
      have V1 : Hid (RevAt l ((L.set i y).set jn x) (i + 1)) := by
        have := HV.out.next hlt hx (by rw [HJ.out]; exact hy)
        rw [HJ.out] at this; exact this
      have P1 : OpsRw (put6 wr g (i * 6) y) g (L.set i y) := HR.out.put (by omega) y
      obtain ⟨p0, p1, p2, p3, p4, p5⟩ := P1.six (i := jn) (o := y) (by rw [List.getElem?_set, if_neg (by omega)]; exact hy)
      have pf := P1.fz
      have hP : put6 wr g (i * 6) y = (((((wr.setCell ⟨g, i * 6, none⟩ (.string y.s)).setCell ⟨g, i * 6 + 1, none⟩ (.int .i64 y.d)).setCell ⟨g, i * 6 + 2, none⟩ (.int .i64 y.a)).setCell ⟨g, i * 6 + 3, none⟩ (.int .i64 y.b)).setCell ⟨g, i * 6 + 4, none⟩ (.int .u32 y.i)).setCell ⟨g, i * 6 + 5, none⟩ (.int .i64 y.t) := rfl
      have pz : g < (put6 wr g (i * 6) y).heap.size := P1.lt (by simp; omega)
      clear hx hy P1 hjn
      rw [ej]
      clear ej hlt hi2
      go_wp2
      refine wp_region_phase 13 [(0, 0), (1, 0), (2, 0), (3, 0), (4, 0), (5, 0), (6, 0), (7, 1), (8, 0), (9, 0), (10, 0), (11, 1), (12, 0), (13, 2), (14, 0), (15, 2)] (fun W => TwoO W g (i * 6) (jn * 6) x y) (by kernel_rfl) (by kernel_rfl) (fun _ _ _ d _ h => by cases d <;> exact h) ⟨by simpa using x0, by simpa using x1, by simpa using x2, by simpa using x3, by simpa using x4, by simpa using x5, by simpa using y0, by simpa using y1, by simpa using y2, by simpa using y3, by simpa using y4, by simpa using y5⟩ ?_
      repeat (first | (refine wpPlanZ_free (by rfl) (by rfl) (fun W => by (go_simp; try with_reducible rfl)) (fun K hK => ?_); go_simp; refine hK _ ?_; clear hK K) | (refine wpPlanZ_quiet (by rfl) (by rfl) (fun W hW => by (obtain ⟨z0, z1, z2, z3, z4, z5, z6, z7, z8, z9, za, zb⟩ := hW; go_simp; try with_reducible rfl)) (fun K hK => ?_); go_simp; refine hK _ ?_; clear hK K))
      refine wpPlanZ_serial (by rfl) (by rfl) (fun K hK => ?_)
      go_simp
      refine hK _ _ (fun h => absurd h (by decide)) ?_
      clear hK K
      rw [← hP]
      clear hP x0 x1 x2 x3 x4 x5 y0 y1 y2 y3 y4 y5 hfz
      generalize put6 wr g (i * 6) y = W1 at *
      repeat (refine wpPlanZ_free (by rfl) (by rfl) (fun W => by (go_simp; try with_reducible rfl)) (fun K hK => ?_); go_simp; refine hK _ ?_; clear hK K)
      refine wpPlanZ_serial (by rfl) (by rfl) (fun K hK => ?_)
      go_simp
      refine hK _ _ (fun h => absurd h (by decide)) ?_
      clear hK K
      refine wpPlanZ_nil ?_
      have hP : (((((W1.setCell ⟨g, jn * 6, none⟩ (.string x.s)).setCell ⟨g, jn * 6 + 1, none⟩ (.int .i64 x.d)).setCell ⟨g, jn * 6 + 2, none⟩ (.int .i64 x.a)).setCell ⟨g, jn * 6 + 3, none⟩ (.int .i64 x.b)).setCell ⟨g, jn * 6 + 4, none⟩ (.int .u32 x.i)).setCell ⟨g, jn * 6 + 5, none⟩ (.int .i64 x.t) = put6 W1 g (jn * 6) x := rfl
      rw [hP]
      clear hP p0 p1 p2 p3 p4 p5 pf pz
      have R2 : Hid (OpsRw (put6 W1 g (jn * 6) x).drew g ((L.set i y).set jn x)) := R1.out.drew
      have G2 : Hid (w.grownBy (put6 W1 g (jn * 6) x).drew (some g)) := grown_drew G1.out
      clear R1 G1
      generalize (put6 W1 g (jn * 6) x).drew = W2 at *
      go_wp2
      go_roundw
      case rel =>
        refine ⟨i + 1, _, by go_num, ?_, V1.out, R2.out, G2.out⟩
        congr 1
        have := HJ.out
        omega
      case measure => simp [intOf]; omega
    · have hlt' : ¬ (i : Int) < (l.length : Int) - 1 - i := by omega
      go_wp2
      go_end0
      refine ⟨rfl, ?_, HG.out⟩
      rw [← HV.out.done (by omega)]; exact HR.out
end Go.Proofs.YtcccaejjhodnkaaDoor
