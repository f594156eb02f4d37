/-
  The statements' own functions: OwnOps, LongOps.
-/
import Derived.Test.YtkehhlibkebomaaDoorKApp
import Derived.Test.YtkehhlibkebomaaDoorQIrChk2
namespace Go.Proofs.YtkehhlibkebomaaDoor
open Go.RowKit Go.Maps
open Num
set_option linter.unusedVariables false
/-- are ops too many, or a kind's word too long, for a statement? -/
def longO (l : List Opx) (most : Int) : Bool := (decide (most < l.length) && decide (l.length ≠ 201)) || l.any fun o => decide (20 < o.s.size)
set_option maxRecDepth 100000 in
set_option maxHeartbeats 2000000 in
theorem longOps_any {w : World} {v : Value} {l : List Opx} (A : OpsIn w v l) (hl : (l.length : Int) ≤ 9223372036854775807) (hs : ∀ o ∈ l, (o.s.size : Int) ≤ 9223372036854775807) (most : Int) :
    Calls Tryd.prog 5 #[v, .int .i64 most] w fun e w' => e = .returned (.int .i64 (if longO l most = true then 1 else 0)) ∧ w' = w := by
  obtain ⟨ao, cap, rfl, hc, hh⟩ := A.sh
  have HH : Hid (0 < l.length → ∃ b off : Nat, ao = some ⟨b, off, none⟩ ∧ ∀ (i : Nat) (o : Opx), l[i]? = some o → ∀ (j : Nat) (u : Value), (opC o)[j]? = some u → w.cell? ⟨b, off + i * 6 + j, none⟩ = some u) := hh
  have SZ : Hid (∀ o ∈ l, (o.s.size : Int) ≤ 9223372036854775807) := hs
  clear hh A hs
  obtain ⟨r, hr⟩ : ∃ r : Int, (if longO l most = true then 1 else 0) = r := ⟨_, rfl⟩
  rw [hr]
  have HR : Hid ((if longO l most = true then (1 : Int) else 0) = r) := hr
  clear hr
  by_cases hf : most < (l.length : Int) ∧ l.length ≠ 201
  · obtain ⟨h1, h2⟩ := hf
    have h2' : ((l.length : Int) != 201) = true := by simp; omega
    have h0 : Hid (r = 1) := by
      show _ = _; rw [← HR.out, if_pos]; unfold longO; simp [h1, h2]
    go_enter Tryd.func5, Tryd.ntmps5
    go_wp2
    go_ret
    exact ⟨by rw [h0.out]; rfl, rfl⟩
  · have HL : Hid (longO l most = l.any fun o => decide (20 < o.s.size)) := by
      show _ = _; unfold longO
      have : (decide (most < (l.length : Int)) && decide (l.length ≠ 201)) = false := by
        rw [Bool.eq_false_iff]; intro h; apply hf; simpa using h
      rw [this, Bool.false_or]
    have hcs : ¬ most < (l.length : Int) ∨ (most < (l.length : Int) ∧ ((l.length : Int) != 201) = false) := by
      by_cases h : most < (l.length : Int)
      · refine .inr ⟨h, ?_⟩
        have : l.length = 201 := by
          by_cases h2 : l.length = 201
          · exact h2
          · exact absurd ⟨h, h2⟩ hf
        simp; omega
      · exact .inl h
    clear hf
    rcases hcs with h1 | ⟨h1, h2⟩
    all_goals
      go_enter Tryd.func5, Tryd.ntmps5
      go_wp2
      go_loop [5] (fun i => ∃ j : Nat, j ≤ l.length ∧ i = .int .i64 j ∧ ∀ o ∈ l.take j, ¬ 20 < o.s.size) (fun i => l.length - (intOf i).toNat)
      case atStart => exact ⟨0, Nat.zero_le _, rfl, by simp⟩
      case round =>
        obtain ⟨j, hj, rfl, hsm⟩ := hrel
        have SM : Hid (∀ o ∈ l.take j, ¬ 20 < o.s.size) := hsm
        clear hsm
        by_cases hlt : j < l.length
        · obtain ⟨o, ho, hom⟩ : ∃ o, l[j]? = some o ∧ o ∈ l := ⟨l[j], List.getElem?_eq_getElem hlt, List.getElem_mem hlt⟩
          obtain ⟨b, off, rfl, hcell⟩ := HH.out (by omega)
          have x0 := (op_cells (hcell j o ho)).1
          have hlt' : (j : Int) < l.length := by omega
          have hsz := SZ.out o hom
          have HO : Hid (l[j]? = some o) := ho
          clear hcell ho
          by_cases h20 : 20 < o.s.size
          · have h20' : (20 : Int) < o.s.size := by omega
            have h0 : Hid (r = 1) := by
              show _ = _; rw [← HR.out, if_pos]; rw [HL.out, List.any_eq_true]; exact ⟨o, hom, by simpa using h20⟩
            clear hom
            go_wp2
            go_ret
            exact ⟨by rw [h0.out]; rfl, rfl⟩
          · have h20' : ¬ (20 : Int) < o.s.size := by omega
            clear hom
            go_wp2
            go_round
            case rel =>
              refine ⟨j + 1, by omega, by go_num, fun x hx => ?_⟩
              rw [take_snoc' HO.out] at hx
              rcases List.mem_append.1 hx with hx | hx
              · exact SM.out x hx
              · simp at hx; subst hx; exact h20
            case measure => simp [intOf]; omega
        · obtain rfl : j = l.length := by omega
          have h0 : Hid (r = 0) := by
            show _ = _; rw [← HR.out, if_neg]; rw [HL.out, List.any_eq_true]
            rintro ⟨o, ho, h⟩
            have := SM.out o (by rw [List.take_length]; exact ho)
            exact this (by simpa using h)
          go_wp2
          go_ret
          exact ⟨by rw [h0.out]; rfl, rfl⟩
theorem infoOp : (Tryd.prog.info? 53).map (fun i => (i.zero, i.size, i.bytes)) = some (some (.agg #[.string ⟨#[]⟩, .int .i64 0, .int .i64 0, .int .i64 0, .int .u32 0, .int .i64 0]), 6, 56) := by kernel_rfl
def opL (l : List Opx) : List Value := l.flatMap opC
theorem opL_len (l : List Opx) : (opL l).length = l.length * 6 := by
  induction l with
  | nil => rfl
  | cons q p ih => unfold opL at ih ⊢; rw [List.flatMap_cons, List.length_append, ih]; simp [opC]; omega
theorem opL_get : ∀ (p : List Opx) (j : Nat) (q : Opx) (i : Nat), p[j]? = some q → i < 6 → (opL p)[j * 6 + i]? = (opC q)[i]?
  | [], j, q, i, h, _ => by simp at h
  | r :: p, 0, q, i, h, hi => by
    simp at h; subst h
    show (opC r ++ opL p)[0 * 6 + i]? = _
    rw [List.getElem?_append_left (by simp [opC]; omega)]; simp
  | r :: p, j + 1, q, i, h, hi => by
    show (opC r ++ opL p)[(j + 1) * 6 + i]? = _
    rw [List.getElem?_append_right (by simp [opC]; omega), ← opL_get p j q i (by simpa using h) hi]
    congr 1; simp [opC]; omega
theorem opL_one (l : List Opx) : ∀ u ∈ opL l, u.oneCell' = true := by
  intro u hu
  obtain ⟨o, _, h⟩ := List.mem_flatMap.1 hu
  simp [opC] at h
  rcases h with rfl | rfl | rfl | rfl | rfl | rfl <;> rfl
theorem opL_at {w : World} {b off : Nat} {l : List Opx} (h : ∀ (i : Nat) (o : Opx), l[i]? = some o → ∀ (j : Nat) (u : Value), (opC o)[j]? = some u → w.cell? ⟨b, off + i * 6 + j, none⟩ = some u) : ∀ j u, (opL l)[j]? = some u → w.cell? ((⟨b, off, none⟩ : Addr).add j) = some u := by
  intro j u hj
  have hlt : j < l.length * 6 := by have := (List.getElem?_eq_some_iff.1 hj).1; rwa [opL_len] at this
  have hi : j / 6 < l.length := by omega
  have ho : l[j / 6]? = some l[j / 6] := List.getElem?_eq_getElem hi
  have := opL_get l (j / 6) _ (j % 6) ho (by omega)
  rw [show j / 6 * 6 + j % 6 = j by omega, hj] at this
  have hc := h _ _ ho _ _ this.symm
  have hadd : (⟨b, off, none⟩ : Addr).add j = ⟨b, off + j, none⟩ := by unfold Addr.add; split <;> simp_all
  rw [hadd, ← hc]; congr 2; omega
/-- a row of ops of one's own -/
theorem ops_of_row {w : World} {base n : Nat} {v : Value} {l : List Opx} (hr : w.ownsRow base 53 6 v l.length (opL l)) (ok : ∀ o ∈ l, o.ok) : OpsIn w v l := by
  rcases hr.2 with ⟨rfl, h⟩ | ⟨g, cap, cur, rfl, hg, hh, hn, _⟩
  · refine ⟨⟨none, 0, by rw [h], by omega, fun hp => by omega⟩, ok⟩
  · refine ⟨⟨_, cap, rfl, hn, fun hp => ⟨g, 0, rfl, fun i o ho j u hu => ?_⟩⟩, ok⟩
    have hj : j < 6 := by have := (List.getElem?_eq_some_iff.1 hu).1; simpa [opC] using this
    have := hr.cells (g := g) rfl (i * 6 + j) u (by rw [opL_get l i o j ho hj]; exact hu)
    rw [add_lit] at this
    rw [Nat.zero_add]; exact this
set_option maxRecDepth 100000 in
set_option maxHeartbeats 2000000 in
theorem ownOps_any {w : World} {v : Value} {l : List Opx} (A : OpsIn w v l) (hl : l.length ≤ 1000) :
    Calls Tryd.prog 7 #[v] w fun e w' => ∃ v', e = .returned v' ∧ OpsIn w' v' l ∧ Below w.heap.size w w' := by
  have A0 := A
  obtain ⟨ao, cap, rfl, hc, hh⟩ := A.sh
  have OK : Hid (∀ o ∈ l, o.ok) := A.ok
  obtain ⟨i0, hi, hz0, hz1, hz2⟩ := info_parts infoOp
  clear A
  cases ao with
  | none =>
    have hl0 : l = [] := by
      rcases Nat.eq_zero_or_pos l.length with h | h
      · exact List.length_eq_zero_iff.1 h
      · obtain ⟨b, off, e, _⟩ := hh h; cases e
    subst hl0
    clear hh A0
    go_enter Tryd.func7, Tryd.ntmps7
    go_wp2
    go_ret
    exact ⟨_, rfl, ⟨⟨none, 0, rfl, Nat.le_refl _, fun h => by cases h⟩, OK.out⟩, Below.refl _ _⟩
  | some ad =>
    have hnews : ∀ j u, (opL l)[j]? = some u → w.cell? (ad.add j) = some u := by
      rcases Nat.eq_zero_or_pos l.length with h | h
      · have : l = [] := List.length_eq_zero_iff.1 h
        subst this; intro j u hj; simp [opL] at hj
      · obtain ⟨b, off, e, hcl⟩ := hh h
        injection e with e; subst e
        exact opL_at hcl
    clear hh A0
    go_enter Tryd.func7, Tryd.ntmps7
    go_wp2_with (at_builtin; refine wpList_append_moved rfl _ _ 22 rfl w.heap.size 53 i0 (.agg #[.string ⟨#[]⟩, .int .i64 0, .int .i64 0, .int .i64 0, .int .u32 0, .int .i64 0]) 6 56 Tryd.underlying22 hi hz0 hz1 hz2 rfl (by decide) (.slice none 0 0) 0 [] rfl (World.ownsRow_nil _ _ _ _) ad l.length cap (opL l) rfl (opL_len l) hnews (opL_one l) (by unfold maxLen; omega) (by omega) (Nat.le_refl _) ?_; intro v' w3 ho hg hm)
    go_ret
    rw [Nat.zero_add, List.nil_append] at ho
    exact ⟨_, rfl, ops_of_row (n := 0) ho OK.out, ⟨hg.os, hg.tape, hg.output, hg.size, fun k hk => hg.block k hk (by intro e; cases e)⟩⟩
end Go.Proofs.YtkehhlibkebomaaDoor
