/-
  The closed fact of the keep: one plan is there.
-/
import Derived.Test.YtcccaejjhodnkabGreatDoorKKpDrop
import Derived.Test.YtcccaejjhodnkabGreatDoorKKpGet
namespace Go.Proofs.YtcccaejjhodnkabGreatDoor
open Go.RowKit Go.Maps
open Num
set_option linter.unusedVariables false
theorem below_new {w : World} (o : Obj) : Below w.heap.size w (w.alloc o) := (Below.refl _ _).alloc (Nat.le_refl _) _
theorem alloc_get (w : World) (o : Obj) (k : Nat) : (w.alloc o).heap[k]? = if k = w.heap.size then some o else w.heap[k]? := by
  show (w.heap.push o)[k]? = _
  rw [Array.getElem?_push]
theorem KHold.and {mb : Nat} {w : World} {kb : Nat} {v : Value} {Q R : World → Prop} (h1 : KHold mb w kb v Q) (h2 : KHold mb w kb v R) : KHold mb w kb v (fun W => Q W ∧ R W) := fun W hs hb => ⟨h1 W hs hb, h2 W hs hb⟩
theorem hold_row {mb : Nat} {w : World} {kb bo br : Nat} {o : Opx} (ok : o.ok) (ko : kb ≠ bo) (kr : kb ≠ br) (mo : mb ≠ bo) (mr : mb ≠ br) (h1 : w.heap[bo]? = some (.cells #[.string o.s, .int .i64 o.d, .int .i64 o.a, .int .i64 o.b, .int .u32 o.i, .int .i64 o.t] 64 (0, 0))) (h2 : w.heap[br]? = some (.cells #[.slice (some ⟨bo, 0, none⟩) 1 1] 40 (0, 0))) :
    KHold mb w kb (.slice none 0 0) (fun W => RowsI W (.slice (some ⟨br, 0, none⟩) 1 1) [[o]]) := fun W hs hb =>
  rows_one ok ((hb bo (Array.getElem?_eq_some_iff.1 h1).1 (Ne.symm ko) (Ne.symm mo) (fun e => by cases e)).trans h1) ((hb br (Array.getElem?_eq_some_iff.1 h2).1 (Ne.symm kr) (Ne.symm mr) (fun e => by cases e)).trans h2)
theorem hold_int {mb : Nat} {w : World} {kb bg : Nat} {z : Int} (kg : kb ≠ bg) (mg : mb ≠ bg) (h : w.heap[bg]? = some (.cells #[.int .i64 z] 3 (0, 0))) : KHold mb w kb (.slice none 0 0) (fun W => IntsAt W (.slice (some ⟨bg, 0, none⟩) 1 1) [z]) := fun W hs hb =>
  ints_one ((hb bg (Array.getElem?_eq_some_iff.1 h).1 (Ne.symm kg) (Ne.symm mg) (fun e => by cases e)).trans h)
theorem few_one (o : Opx) : Few [[o]] := ⟨by simp, fun r hr => by rw [List.mem_singleton.1 hr]; simp⟩
theorem below_kb {w w' : World} {B kb : Nat} {W : World} (h : Below B w W) (hk : B ≤ kb) (g : W.grownBy w' (some kb)) (hs : B ≤ W.heap.size) : Below B w w' :=
  ⟨g.os.trans h.os, g.tape.trans h.tape, g.output.trans h.output, Nat.le_trans h.size g.size, fun k hk' => (g.block k (by omega) (fun e => by injection e; omega)).trans (h.block k hk')⟩
set_option maxRecDepth 100000 in
set_option maxHeartbeats 4000000 in
theorem kept_any (pe : Nat → Addr) {w : World} (E : Ep pe w) :
    Calls Tryz.prog 4 #[] w fun e w' => e = .returned (.bool true) ∧ Below w.heap.size w w' := by
  have hnew := newK_any w 1 (by omega) (by omega)
  obtain ⟨w5, hw5⟩ : ∃ w5, ((((w.alloc (.cells #[.int .i64 1, .slice none 0 0] 67)).alloc (.cells #[.string ⟨#[111, 117, 116]⟩, .int .i64 0, .int .i64 0, .int .i64 0, .int .u32 8, .int .i64 0] 64)).alloc (.cells #[.slice (some ⟨w.heap.size + 1, 0, none⟩) 1 1] 40)).alloc (.cells #[.int .u32 8, .int .i64 1, .slice (some ⟨w.heap.size + 1 + 1, 0, none⟩) 1 1] 48)).alloc (.cells #[.int .i64 3] 3) = w5 := ⟨_, rfl⟩
  have hb1 : Below w.heap.size w (w.alloc (.cells #[.int .i64 1, .slice none 0 0] 67)) := below_new _
  have hb15 : Below (w.heap.size + 1) (w.alloc (.cells #[.int .i64 1, .slice none 0 0] 67)) w5 := by
    rw [← hw5]
    exact ((((Below.refl _ _).alloc (by simp) _).alloc (by simp <;> omega) _).alloc (by simp <;> omega) _).alloc (by simp <;> omega) _
  have hB5 : Below w.heap.size w w5 := hb1.trans (hb15.mono (by omega))
  have K5 : KIs w.heap.size w5 w.heap.size 1 (.slice none 0 0) [] := (newK_is w.heap.size w 1).stays (by rw [World.size_alloc]; exact hb15)
  have g1 : w5.heap[w.heap.size + 1]? = some (.cells #[.string ⟨#[111, 117, 116]⟩, .int .i64 0, .int .i64 0, .int .i64 0, .int .u32 8, .int .i64 0] 64 (0, 0)) := by rw [← hw5]; simp only [alloc_get, World.size_alloc]; simp
  have g2 : w5.heap[w.heap.size + 1 + 1]? = some (.cells #[.slice (some ⟨w.heap.size + 1, 0, none⟩) 1 1] 40 (0, 0)) := by rw [← hw5]; simp only [alloc_get, World.size_alloc]; simp
  have g4 : w5.heap[w.heap.size + 1 + 1 + 1 + 1]? = some (.cells #[.int .i64 3] 3 (0, 0)) := by rw [← hw5]; simp only [alloc_get, World.size_alloc]; simp
  have hA := (hold_row (mb := w.heap.size) (kb := w.heap.size) (o := outO 8) (outO_ok 8 (by omega) (by omega)) (by omega) (by omega) (by omega) (by omega) g1 g2).and (hold_int (kb := w.heap.size) (by omega) (by omega) g4)
  have hput := put_ok pe (E.stays hB5) K5 (by have := (Array.getElem?_eq_some_iff.1 g4).1; omega) (by simp) hA (few_one _) (by simp) 8 1 (by omega) (by omega) planF_out8
  have z5 : w.heap.size + 4 < w5.heap.size := (Array.getElem?_eq_some_iff.1 g4).1
  have HB5 : Hid (Below w.heap.size w w5) := hB5
  clear hb1 hb15 hB5 K5 g1 g2 g4 hA E
  go_enter Tryz.func4, Tryz.ntmps4
  go_wp2_with fail
  refine hnew.mono ?_
  rintro e w1 ⟨rfl, rfl⟩
  clear hnew
  go_wp2_with fail
  refine hput.mono ?_
  rintro e w6 ⟨x, v6, rfl, ⟨x1, x2, x3, x4⟩, K6, hg6⟩
  have hcut : cutK 1 (([] : List Kx).filter (othK 8) ++ [x]) = [x] := by unfold cutK; simp
  rw [hcut] at K6
  have hB6 : Below w.heap.size w w6 := below_kb HB5.out (Nat.le_refl _) hg6 (by omega)
  have hget := get_any K6 (by simp) (fun y hy => by rw [List.mem_singleton.1 hy, x4]; exact ⟨few_one _, fun r hr => by rw [List.mem_singleton.1 hr]; simp⟩) 8
  have z6 : w.heap.size + 4 < w6.heap.size := by have := hg6.size; omega
  have HB6 : Hid (Below w.heap.size w w6) := hB6
  rw [rise_one] at x3
  have hfx : ([x] : List Kx).filter (atK 8) = [x] := by simp [atK, x1]
  have hfo : ([x] : List Kx).filter (othK 8) = [] := by simp [othK, x1]
  clear hput K6 hg6 hB6 hcut HB5 hw5 z5
  go_wp2_with fail
  refine hget.mono ?_
  rintro e w7 ⟨hd, hg7⟩
  rcases hd with ⟨h0, _⟩ | ⟨y, r, v7, v5, us, h0, rfl, K7, R7⟩
  · rw [hfx] at h0; cases h0
  rw [hfx] at h0
  injection h0 with h0 h00
  subst h0
  subst h00
  rw [hfo, List.nil_append] at K7
  have hB7 : Below w.heap.size w w7 := below_kb HB6.out (Nat.le_refl _) hg7 (by omega)
  obtain ⟨ya, yn, yc, hv5⟩ := own_slice R7.own
  subst hv5
  have z7 : w.heap.size + 4 < w7.heap.size := by have := hg7.size; omega
  have hb8 : Below w7.heap.size w7 (w7.alloc (.cells #[.int .u32 x.pc, .int .i64 x.many, .slice ya yn yc] 48)) := below_new _
  have K8 := K7.stays hb8
  have hpg := pages_any K8.row (fun q hq => (K8.one q hq).here.1) (by simp) (fun q hq => by rw [List.mem_singleton.1 hq, x3]; simp)
  have hall : rise (allPg [x]) = [3] := by unfold allPg; simp only [List.flatMap_cons, List.flatMap_nil, List.append_nil]; rw [x3, rise_one]
  rw [hall] at hpg
  have HK8 : Hid (KIs w.heap.size (w7.alloc (.cells #[.int .u32 x.pc, .int .i64 x.many, .slice ya yn yc] 48)) w.heap.size 1 v7 [x]) := K8
  have HB8 : Hid (Below w.heap.size w (w7.alloc (.cells #[.int .u32 x.pc, .int .i64 x.many, .slice ya yn yc] 48))) := hB7.trans (hb8.mono hB7.size)
  rw [x1, x2] at hpg HK8 HB8
  clear hget K7 R7 hB7 hb8 K8 hall hg7 HB6 hfx hfo
  go_wp2_with fail
  refine hpg.mono ?_
  rintro e w9 ⟨v9, rfl, ho9, hb9⟩
  have hs9 := hb9.size
  have hb10 : Below w9.heap.size w9 (w9.alloc (.cells #[.int .i64 3] 3)) := below_new _
  have hsm := sameK_any ((ints_of_own ho9).stays hb10) (ints_one (z := 3) (heap_alloc_new w9 (.cells #[.int .i64 3] 3))) (by simp)
  obtain ⟨pa, pn, pc9, hv9⟩ := own_slice ho9
  subst hv9
  have HK10 := (HK8.out.stays hb9).stays hb10
  have HB10 : Hid (Below w.heap.size w (w9.alloc (.cells #[.int .i64 3] 3))) := (HB8.out.trans (hb9.mono HB8.out.size)).trans (hb10.mono (Nat.le_trans HB8.out.size hs9))
  have HK11 : Hid (KIs w.heap.size (w9.alloc (.cells #[.int .i64 3] 3)) w.heap.size 1 v7 [x]) := HK10
  clear hpg ho9 hb9 hb10 HK10 HK8 HB8
  go_wp2_with fail
  refine hsm.mono ?_
  rintro e w11 ⟨rfl, hb11⟩
  have K11 := HK11.out.stays hb11
  have hpc := pcs_any K11.row (by simp)
  have HB11 : Hid (Below w.heap.size w w11) := HB10.out.trans (hb11.mono HB10.out.size)
  clear hsm hb11 HK11 HB10 K11
  go_wp2_with fail
  refine hpc.mono ?_
  rintro e w12 ⟨v12, rfl, ho12, hb12⟩
  have ho13 : w12.ownsRow w11.heap.size 34 1 v12 (0 + 1) (pcL [x]) := ho12
  obtain ⟨g12, c12, hv12⟩ := own_pos ho13
  subst hv12
  have HB12 : Hid (Below w.heap.size w w12) := HB11.out.trans (hb12.mono HB11.out.size)
  clear hpc ho12 ho13 hb12 HB11
  go_wp2
  go_ret
  exact ⟨rfl, HB12.out⟩
end Go.Proofs.YtcccaejjhodnkabGreatDoor
