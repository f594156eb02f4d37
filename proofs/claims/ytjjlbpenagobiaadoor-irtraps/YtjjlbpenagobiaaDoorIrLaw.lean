/-
  The statements' own functions: LongOps, OwnOps, longPlace, placed, memory; Watch.
-/
import Derived.Test.YtjjlbpenagobiaaDoorIrEval
namespace Go.Proofs.YtjjlbpenagobiaaDoor
open Go.RowKit Go.Maps
open Num
set_option linter.unusedVariables false
section
variable {w : World} {sb bp bw bh N : Nat} {m : Nat → Int} {wt ht : Int → Bool}
/-- the pages that are watched, with one more -/
def wtOn (wt : Int → Bool) (n : Int) : Int → Bool := fun x => if x = n then true else wt x
set_option maxRecDepth 100000 in
set_option maxHeartbeats 2000000 in
theorem watch_no (pe : Nat → Addr) (E : Eg pe w) (v : Value) (n : Int) (hn : n < 0 ∨ 64 ≤ n) :
    Calls Tryd.prog 15 #[v, .int .i64 n, .bool true] w fun e w' => (∃ x, e = .returned x) ∧ w' = w := by
  have e2 := E.e2
  clear E
  rcases hn with hn | hn
  · go_enter Tryd.func15, Tryd.ntmps15
    go_wp2
    go_ret
    exact ⟨⟨_, rfl⟩, rfl⟩
  · have h0 : ¬ n < 0 := by omega
    go_enter Tryd.func15, Tryd.ntmps15
    go_wp2
    go_ret
    exact ⟨⟨_, rfl⟩, rfl⟩
set_option maxRecDepth 100000 in
set_option maxHeartbeats 2000000 in
theorem watch_on (R : RamIs w sb bp bw bh N m wt ht) (hsw : sb ≠ bw) (n : Int) (h0 : 0 ≤ n) (h1 : n < 64) (hN : N < maxLen) :
    Calls Tryd.prog 15 #[.pointer (some ⟨sb, 0, none⟩), .int .i64 n, .bool true] w fun e w' => (∃ x, e = .returned x) ∧ RamIs w' sb bp bw bh (N + 1) m (wtOn wt n) ht ∧ w.grownBy w' (some bw) := by
  have c1 := R.c1
  have RH : Hid (RamIs w sb bp bw bh N m wt ht) := R
  obtain ⟨D, hD1, hD2⟩ := R.ws
  have hk := key3 (n := n) (by omega) (by omega)
  have g0 : ¬ n < 0 := by omega
  have g1 : ¬ 64 ≤ n := by omega
  clear R
  go_enter Tryd.func15, Tryd.ntmps15
  go_wp2_with (first | (go_at_call 20; refine (ready_old RH.out).mono ?_; rintro e w' ⟨rfl, rfl⟩) | (at_mapUpdate; refine wpList_mapUpdate_own _ rfl _ _ _ 69 rfl 3 76 law3 Tryd.underlying69 unitElem bw N D rfl hD1 hN _ _ _ rfl rfl hk (.agg []) [] unitElem_mk ?_; intro w4 hown4 hg4))
  go_ret
  have r := RH.out
  have hs4 : SetAt w4 bw (N + 1) _ := SetAt.put hD2 hD1.isMap hown4
  refine ⟨⟨_, rfl⟩, ?_, hg4⟩
  exact ⟨hg4.cell r.c0 (by simp [hsw]), hg4.cell r.c1 (by simp [hsw]), hg4.cell r.c2 (by simp [hsw]), r.pw, r.ph, r.wh, r.sp, r.sh, (r.ps.kept hg4 (by simp [r.pw])).mono (by omega), hs4, (r.hs.kept hg4 (by simp [Ne.symm r.wh])).mono (by omega), r.mb⟩
end
/-- are ops too many, or a kind's word too long, for a statement? -/
def longO (l : List Opx) (most : Int) : Bool := (decide (most < l.length) && decide (l.length ≠ 201)) || l.any fun o => decide (20 < o.s.size)
set_option maxRecDepth 100000 in
set_option maxHeartbeats 2000000 in
theorem longOps_any {w : World} {v : Value} {l : List Opx} (A : OpsIn w v l) (hl : (l.length : Int) ≤ 9223372036854775807) (hs : ∀ o ∈ l, (o.s.size : Int) ≤ 9223372036854775807) (most : Int) :
    Calls Tryd.prog 5 #[v, .int .i64 most] w fun e w' => e = .returned (.int .i64 (if longO l most = true then 1 else 0)) ∧ w' = w := by
  obtain ⟨ao, cap, rfl, hc, hh⟩ := A.sh
  have HH : Hid (0 < l.length → ∃ b off : Nat, ao = some ⟨b, off, none⟩ ∧ ∀ (i : Nat) (o : Opx), l[i]? = some o → ∀ (j : Nat) (u : Value), (opC o)[j]? = some u → w.cell? ⟨b, off + i * 6 + j, none⟩ = some u) := hh
  have SZ : Hid (∀ o ∈ l, (o.s.size : Int) ≤ 9223372036854775807) := hs
  clear hh A hs
  obtain ⟨r, hr⟩ : ∃ r : Int, (if longO l most = true then 1 else 0) = r := ⟨_, rfl⟩
  rw [hr]
  have HR : Hid ((if longO l most = true then (1 : Int) else 0) = r) := hr
  clear hr
  by_cases hf : most < (l.length : Int) ∧ l.length ≠ 201
  · obtain ⟨h1, h2⟩ := hf
    have h2' : ((l.length : Int) != 201) = true := by simp; omega
    have h0 : Hid (r = 1) := by
      show _ = _; rw [← HR.out, if_pos]; unfold longO; simp [h1, h2]
    go_enter Tryd.func5, Tryd.ntmps5
    go_wp2
    go_ret
    exact ⟨by rw [h0.out]; rfl, rfl⟩
  · have HL : Hid (longO l most = l.any fun o => decide (20 < o.s.size)) := by
      show _ = _; unfold longO
      have : (decide (most < (l.length : Int)) && decide (l.length ≠ 201)) = false := by
        rw [Bool.eq_false_iff]; intro h; apply hf; simpa using h
      rw [this, Bool.false_or]
    have hcs : ¬ most < (l.length : Int) ∨ (most < (l.length : Int) ∧ ((l.length : Int) != 201) = false) := by
      by_cases h : most < (l.length : Int)
      · refine .inr ⟨h, ?_⟩
        have : l.length = 201 := by
          by_cases h2 : l.length = 201
          · exact h2
          · exact absurd ⟨h, h2⟩ hf
        simp; omega
      · exact .inl h
    clear hf
    rcases hcs with h1 | ⟨h1, h2⟩
    all_goals
      go_enter Tryd.func5, Tryd.ntmps5
      go_wp2
      go_loop [5] (fun i => ∃ j : Nat, j ≤ l.length ∧ i = .int .i64 j ∧ ∀ o ∈ l.take j, ¬ 20 < o.s.size) (fun i => l.length - (intOf i).toNat)
      case atStart => exact ⟨0, Nat.zero_le _, rfl, by simp⟩
      case round =>
        obtain ⟨j, hj, rfl, hsm⟩ := hrel
        have SM : Hid (∀ o ∈ l.take j, ¬ 20 < o.s.size) := hsm
        clear hsm
        by_cases hlt : j < l.length
        · obtain ⟨o, ho, hom⟩ : ∃ o, l[j]? = some o ∧ o ∈ l := ⟨l[j], List.getElem?_eq_getElem hlt, List.getElem_mem hlt⟩
          obtain ⟨b, off, rfl, hcell⟩ := HH.out (by omega)
          have x0 := (op_cells (hcell j o ho)).1
          have hlt' : (j : Int) < l.length := by omega
          have hsz := SZ.out o hom
          have HO : Hid (l[j]? = some o) := ho
          clear hcell ho
          by_cases h20 : 20 < o.s.size
          · have h20' : (20 : Int) < o.s.size := by omega
            have h0 : Hid (r = 1) := by
              show _ = _; rw [← HR.out, if_pos]; rw [HL.out, List.any_eq_true]; exact ⟨o, hom, by simpa using h20⟩
            clear hom
            go_wp2
            go_ret
            exact ⟨by rw [h0.out]; rfl, rfl⟩
          · have h20' : ¬ (20 : Int) < o.s.size := by omega
            clear hom
            go_wp2
            go_round
            case rel =>
              refine ⟨j + 1, by omega, by go_num, fun x hx => ?_⟩
              rw [take_snoc' HO.out] at hx
              rcases List.mem_append.1 hx with hx | hx
              · exact SM.out x hx
              · simp at hx; subst hx; exact h20
            case measure => simp [intOf]; omega
        · obtain rfl : j = l.length := by omega
          have h0 : Hid (r = 0) := by
            show _ = _; rw [← HR.out, if_neg]; rw [HL.out, List.any_eq_true]
            rintro ⟨o, ho, h⟩
            have := SM.out o (by rw [List.take_length]; exact ho)
            exact this (by simpa using h)
          go_wp2
          go_ret
          exact ⟨by rw [h0.out]; rfl, rfl⟩
end Go.Proofs.YtjjlbpenagobiaaDoor
