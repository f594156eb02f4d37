/-
  Package opt: which registers are still asked for.
-/
import Derived.Test.YtcccaejjhodnkaaDoorOptReads
import Derived.Test.YtcccaejjhodnkaaDoorPhase
namespace Go.Proofs.YtcccaejjhodnkaaDoor
open Go.RowKit Go.Maps
open Num
set_option linter.unusedVariables false
/-- block b holds what is asked for -/
def NeedAt (w : World) (b : Nat) (n : Nx) : Prop := RowIs w b 113 64 (fun j => .bool (n j))
theorem NeedAt.congr {w : World} {b : Nat} {n n' : Nx} (N : NeedAt w b n) (h : ∀ j : Nat, j < 64 → n' j = n j) : NeedAt w b n' := by
  obtain ⟨cur, h1, h2, h3⟩ := N
  exact ⟨cur, h1, h2, fun j hj => by rw [h3 j hj]; show some (Value.bool (n j)) = some (Value.bool (n' j)); rw [h j hj]⟩
theorem grown_set {w : World} (a : Addr) (v : Value) : w.grownBy (w.setCell a v) (some a.block) := ⟨rfl, rfl, rfl, by simp [World.setCell], fun k hk hn => Below.heap_setCell _ _ _ _ (by intro e; exact hn (by rw [e]))⟩
theorem grown_trans {w w1 w2 : World} {g : Option Nat} (a : w.grownBy w1 g) (b : w1.grownBy w2 g) : w.grownBy w2 g :=
  ⟨b.os.trans a.os, b.tape.trans a.tape, b.output.trans a.output, Nat.le_trans a.size b.size, fun k hk hn => (b.block k (Nat.lt_of_lt_of_le hk a.size) hn).trans (a.block k hk hn)⟩
theorem grown_below {w w' : World} {g : Option Nat} (h : Below w.heap.size w w') : w.grownBy w' g := ⟨h.os, h.tape, h.output, h.size, fun k hk _ => h.block k hk⟩
theorem grown_refl (w : World) (g : Option Nat) : w.grownBy w g := ⟨rfl, rfl, rfl, Nat.le_refl _, fun _ _ _ => rfl⟩
theorem below_of_grown {B : Nat} {w w' w'' : World} {b : Nat} (h : Below B w w') (g : w'.grownBy w'' (some b)) (hB : B ≤ w.heap.size) (hb : B ≤ b) : Below B w w'' := h.grown g (Nat.le_trans hB h.size) (fun k e => by cases e; exact hb)
set_option maxRecDepth 100000 in
set_option maxHeartbeats 2000000 in
theorem leaveN_any {w : World} {b : Nat} {n : Nx} (N : NeedAt w b n) : Calls Tryd.prog 92 #[.pointer (some ⟨b, 0, none⟩)] w fun e w' => e = .returned (.tuple #[]) ∧ NeedAt w' b (fun r => if 0 ≤ r ∧ r ≤ 33 then true else n r) ∧ w.grownBy w' (some b) := by
  have NH : Hid (NeedAt w b n) := N
  clear N
  go_enter Tryd.func92, Tryd.ntmps92
  go_wp2
  go_loopw [2, 3] (fun _ i wr => ∃ j : Nat, j ≤ 34 ∧ i = .int .i64 j ∧ NeedAt wr b (fun r => if 0 ≤ r ∧ r < j then true else n r) ∧ w.grownBy wr (some b)) (fun _ i _ => 34 - (intOf i).toNat)
  case atStart => exact ⟨0, by omega, rfl, NH.out.congr (fun j _ => by rw [if_neg (by omega)]), grown_refl _ _⟩
  case round =>
    obtain ⟨j, hj, rfl, hN, hg⟩ := hrel
    have HN : Hid (NeedAt wr b (fun r => if 0 ≤ r ∧ r < (j : Int) then true else n r)) := hN
    have HG : Hid (w.grownBy wr (some b)) := hg
    clear hg NH
    by_cases hlt : j < 34
    · have c := RowIs.cell HN.out (j := j) (by omega)
      have f := RowIs.fz HN.out j
      have hz := RowIs.lt HN.out
      have hj' : (j : Int) < 34 := by omega
      have hj2 : (j : Int) < 64 := by omega
      clear hN
      go_wp2
      go_roundw
      case rel =>
        refine ⟨j + 1, by omega, by go_num, ?_, grown_trans HG.out (grown_set _ _)⟩
        refine RowIs.put HN.out j (.bool true) _ ?_ ?_
        · simp only [Value.bool.injEq]; rw [if_pos (by omega)]
        · intro k hk hne
          simp only [Value.bool.injEq]
          by_cases h : (k : Int) < j
          · rw [if_pos (by omega), if_pos (by omega)]
          · rw [if_neg (by omega), if_neg (by omega)]
      case measure => simp [intOf]; omega
    · obtain rfl : j = 34 := by omega
      go_wp2
      go_end0
      refine ⟨rfl, HN.out.congr fun k _ => ?_, HG.out⟩
      by_cases h : (k : Int) ≤ 33
      · rw [if_pos (by omega), if_pos (by omega)]
      · rw [if_neg (by omega), if_neg (by omega)]
set_option maxRecDepth 100000 in
set_option maxHeartbeats 2000000 in
theorem spare_any {w : World} {b : Nat} {n : Nx} (N : NeedAt w b n) (o : Opx) (h0 : 0 ≤ wrX o) (h1 : wrX o < 64) : Calls Tryd.prog 58 #[.pointer (some ⟨b, 0, none⟩), opV o] w fun e w' => e = .returned (.bool (spareB n o)) ∧ Below w.heap.size w w' := by
  have hwr := fun w => writes_any o w
  have h23 := kn_eq o.s 23 (by omega) (by omega)
  have hB0 : Below w.heap.size w (w.alloc (.cells #[.string o.s, .int .i64 o.d, .int .i64 o.a, .int .i64 o.b, .int .u32 o.i, .int .i64 o.t] 60)) := (Below.refl _ _).alloc (Nat.le_refl _) _
  have HS : Hid (spareB n o = (decide (wrX o ≠ 0) && decide (o.k ≠ 23) && !n (wrX o))) := rfl
  have NH : Hid (NeedAt w b n) := N
  obtain ⟨r, hr⟩ : ∃ r, spareB n o = r := ⟨_, rfl⟩
  rw [hr] at HS ⊢
  clear N hr
  unfold opV at *
  generalize wrX o = d at *
  by_cases hd : d = 0
  · have HR : Hid (r = false) := by show _ = _; rw [HS.out]; simp [hd]
    subst hd
    go_enter Tryd.func58, Tryd.ntmps58
    go_wp2_with fail
    refine (hwr _).mono ?_
    rintro e w3 ⟨rfl, hb3⟩
    have HB3 : Hid (Below w.heap.size w w3) := hB0.trans (hb3.mono (by simp))
    clear hwr hb3
    go_wp2
    go_ret
    exact ⟨by rw [HR.out]; rfl, HB3.out⟩
  · have hd' : (d != 0) = true := by simpa using hd
    by_cases hk : o.k = 23
    · have h23' : (o.s.toList == [108, 111, 97, 100]) = true := by rw [show (o.s.toList == [108, 111, 97, 100]) = _ from h23]; simpa [Opx.k] using hk
      have HR : Hid (r = false) := by show _ = _; rw [HS.out]; simp [hk]
      clear h23 hk HS hd
      go_enter Tryd.func58, Tryd.ntmps58
      go_wp2_with fail
      refine (hwr _).mono ?_
      rintro e w3 ⟨rfl, hb3⟩
      obtain ⟨c, hf⟩ := bcellO hb3
      have HB3 : Hid (Below w.heap.size w w3) := hB0.trans (hb3.mono (by simp))
      have hz3 : w.heap.size < w3.heap.size := by have := hb3.size; simp at this; omega
      clear hwr hb3
      go_wp2
      go_ret
      exact ⟨by rw [HR.out]; rfl, HB3.out⟩
    · have h23' : (o.s.toList == [108, 111, 97, 100]) = false := by rw [show (o.s.toList == [108, 111, 97, 100]) = _ from h23]; simpa [Opx.k] using hk
      have HR : Hid (r = !n d) := by show _ = _; rw [HS.out]; simp [hk, hd]
      obtain ⟨d, rfl⟩ : ∃ j : Nat, d = j := ⟨d.toNat, by omega⟩
      clear h23 hk HS hd
      go_enter Tryd.func58, Tryd.ntmps58
      go_wp2_with fail
      refine (hwr _).mono ?_
      rintro e w3 ⟨rfl, hb3⟩
      obtain ⟨c, hf⟩ := bcellO hb3
      have HB3 : Hid (Below w.heap.size w w3) := hB0.trans (hb3.mono (by simp))
      have hz3 : w.heap.size < w3.heap.size := by have := hb3.size; simp at this; omega
      have hc := RowIs.cell (RowIs.stays NH.out HB3.out) (j := d) (by omega)
      have hbz := RowIs.lt (RowIs.stays NH.out HB3.out)
      generalize n d = nd at *
      clear hwr hb3
      go_wp2
      go_ret
      exact ⟨by rw [HR.out]; cases nd <;> rfl, HB3.out⟩
/-- a row of whole numbers, cell by cell -/
theorem ints_cell {w : World} {base : Nat} {v : Value} {l : List Int} (h : w.ownsRow base 3 1 v l.length (l.map (Value.int .i64))) : ∃ ao cap, v = .slice ao l.length cap ∧ l.length ≤ cap ∧ (0 < l.length → ∃ g, ao = some ⟨g, 0, none⟩ ∧ base ≤ g ∧ ∀ (i : Nat) (x : Int), l[i]? = some x → w.cell? ⟨g, i, none⟩ = some (.int .i64 x)) := by
  obtain ⟨h1, h2⟩ := h
  rcases h2 with ⟨hv, hn⟩ | ⟨g, cap, cur, hv, hb, hg, hr⟩
  · refine ⟨none, 0, by rw [hv, hn], by omega, fun hp => by omega⟩
  · obtain ⟨r1, r2, r3, r4⟩ := hr
    refine ⟨_, cap, hv, r1, fun _ => ⟨g, rfl, hb, fun i x hx => ?_⟩⟩
    rw [cell_of_row _ _ _ _ _ _ hg]
    have hi : i < l.length := (List.getElem?_eq_some_iff.1 hx).1
    have : (cur.toList.take (l.length * 1))[i]? = some (.int .i64 x) := by rw [r4, List.getElem?_map, hx]; rfl
    rw [List.getElem?_take, if_pos (by omega)] at this
    rw [← Array.getElem?_toList]; exact this
end Go.Proofs.YtcccaejjhodnkaaDoor
