/-
  What the statement asks of an error, of two traces; a bus of the document's, made.
-/
import Derived.Test.YtmfhimphlackiaaDoorDNew
import Derived.Test.YtmfhimphlackiaaDoorDocAct
import Derived.Test.YtmfhimphlackiaaDoorCode
namespace Go.Proofs.YtmfhimphlackiaaDoor
open Go.RowKit Go.Maps
open Num
set_option linter.unusedVariables false
theorem er_of {S : Nat → Addr} {w : World} (E : Errs S w) : Er (S 2) (S 8) (S 9) w := ⟨E.c2, E.c8, E.c9⟩
theorem erA_which (S : Nat → Addr) (a s : Int) (h : chk a s ≠ 0) : ∃ k, k < 10 ∧ erA (S 2) (S 8) (S 9) (chk a s) = S k ∧ rc a s = (k : Int) + 1 := by
  unfold rc chk at *
  by_cases h1 : s ≠ 1 ∧ s ≠ 2 ∧ s ≠ 4
  · exact ⟨2, by omega, by simp [h1, erA], by simp [h1]⟩
  · by_cases h2 : a % s ≠ 0
    · exact ⟨8, by omega, by simp [h1, h2, erA], by simp [h1, h2]⟩
    · by_cases h3 : 16384 ≤ a
      · exact ⟨9, by omega, by simp [h1, h2, h3, erA], by simp [h1, h2, h3]⟩
      · exact absurd (by simp [h1, h2, h3]) h
set_option maxRecDepth 100000 in
set_option maxHeartbeats 1000000 in
theorem coded_nil (w : World) : Calls Tryd.prog 18 #[.nilIface, .int .i64 0] w fun e w' => e = .returned (.bool true) ∧ w' = w := by
  have hc := code_nil w
  go_enter Tryd.func18, Tryd.ntmps18
  go_wp2_with fail
  refine hc.mono ?_
  rintro e w' ⟨rfl, rfl⟩
  clear hc
  go_wp2
  go_ret
  exact ⟨rfl, rfl⟩
set_option maxRecDepth 100000 in
set_option maxHeartbeats 1000000 in
theorem coded_err {S : Nat → Addr} {w : World} (E : Errs S w) (a s : Int) (h : chk a s ≠ 0) : Calls Tryd.prog 18 #[.iface 174 (.pointer (some (erA (S 2) (S 8) (S 9) (chk a s)))), .int .i64 (rc a s)] w fun e w' => e = .returned (.bool true) ∧ Below w.heap.size w w' := by
  obtain ⟨k, hk, e1, e2⟩ := erA_which S a s h
  rw [e1, e2]
  have hc := code_bare S (S k) k w E (Or.inl ⟨hk, rfl⟩) (E.row k hk)
  rw [show num k = (k : Int) + 1 by unfold num; rw [if_pos hk]] at hc
  clear e1 e2 h E
  go_enter Tryd.func18, Tryd.ntmps18
  go_wp2_with fail
  refine hc.mono ?_
  rintro e w' ⟨rfl, hb⟩
  clear hc
  go_wp2
  go_ret
  exact ⟨rfl, hb⟩
set_option maxRecDepth 100000 in
set_option maxHeartbeats 1000000 in
theorem newDBus_any {w : World} {v : Value} {xs : List Int} (X : WordsIn w v xs) (hx : xs.length ≤ 1000) :
    Calls Tryd.prog 31 #[v] w fun e w' => ∃ db rb gb kb : Nat, e = .returned (.pointer (some ⟨db, 0, none⟩)) ∧ DBus w' w'.heap.size db rb gb kb (mw xs) [] 0 [] (.slice none 0 0) ∧ Below w.heap.size w w' ∧ w.heap.size ≤ db ∧ w.heap.size ≤ rb ∧ w.heap.size ≤ gb ∧ w.heap.size ≤ kb := by
  have hnw := dnew_any X (by omega)
  clear X hx
  go_enter Tryd.func31, Tryd.ntmps31
  go_wp2_with fail
  refine hnw.mono ?_
  rintro e w1 ⟨rb, gb, kb, hb1, rfl, DM, hb, l1, l2, l3, l4⟩
  have D := DM.d
  clear hnw
  go_wp2
  go_ret
  have hA : Below w1.heap.size w1 (w1.alloc (.cells #[.pointer (some ⟨rb, 0, none⟩), .string ⟨#[]⟩, .int .u32 0, .slice none 0 0] 106)) := (Below.refl _ _).alloc (Nat.le_refl _) _
  have d1 := D.lt (Or.inl rfl)
  have d2 := D.lt (Or.inr (Or.inl rfl))
  have d3 := D.lt (Or.inr (Or.inr rfl))
  have hz := hb.size
  refine ⟨w1.heap.size, rb, gb, kb, rfl, ⟨by simp, by simp; rfl, by simp, by simp, fun j => by simp, World.ownsRow_nil _ _ _ _, D.stays hA, by simp, by simp; omega, by simp; omega, by simp; omega, by omega, by omega, by omega, Nat.le_refl _⟩, hb.trans (hA.mono hz), hz, l1, l2, l3⟩
theorem acc_get (tr : List Acc) (i j : Nat) (hi : i < tr.length) (hj : j < 4) : (tr.flatMap accC)[i * 4 + j]? = (accC tr[i])[j]? := by
  induction tr generalizing i with
  | nil => simp at hi
  | cons x tr ih =>
    rw [List.flatMap_cons]
    have hl : (accC x).length = 4 := rfl
    cases i with
    | zero => rw [Nat.zero_mul, Nat.zero_add, List.getElem?_append_left (by rw [hl]; exact hj)]; rfl
    | succ i =>
      rw [List.getElem?_append_right (by rw [hl]; omega), hl, show (i + 1) * 4 + j - 4 = i * 4 + j by omega, ih i (by simp at hi; omega)]
      rfl
set_option maxRecDepth 100000 in
set_option maxHeartbeats 2000000 in
theorem sameTrace_any {w : World} {b1 b2 : Nat} {v1 v2 : Value} {tr : List Acc} (o1 : w.ownsRow b1 98 4 v1 tr.length (tr.flatMap accC)) (o2 : w.ownsRow b2 98 4 v2 tr.length (tr.flatMap accC)) (hn : tr.length ≤ 1000) :
    Calls Tryd.prog 61 #[v1, v2] w fun e w' => e = .returned (.bool true) ∧ ∃ n, w' = w.drewN n := by
  obtain ⟨a1, c1, hv1, h1⟩ : ∃ a1 c1, v1 = .slice a1 tr.length c1 ∧ (0 < tr.length → ∃ g, a1 = some ⟨g, 0, none⟩ ∧ tr.length ≤ c1 ∧ ∀ i j u, (accC (tr.getD i ⟨0, false, 0, 0⟩))[j]? = some u → i < tr.length → j < 4 → w.cell? ⟨g, i * 4 + j, none⟩ = some u) := by
    rcases o1.2 with ⟨e, h⟩ | ⟨g, cap, cur, e, _, _, hc, _⟩
    · exact ⟨none, 0, by rw [e, h], fun h' => by omega⟩
    · refine ⟨_, cap, e, fun _ => ⟨g, rfl, hc, fun i j u hu hi hj => ?_⟩⟩
      have := o1.cells (g := g) (by rw [e]; rfl) (i * 4 + j) u (by rw [acc_get tr i j hi hj, ← hu]; simp [List.getD, hi])
      rwa [add_lit] at this
  obtain ⟨a2, c2, hv2, h2⟩ : ∃ a2 c2, v2 = .slice a2 tr.length c2 ∧ (0 < tr.length → ∃ g, a2 = some ⟨g, 0, none⟩ ∧ tr.length ≤ c2 ∧ ∀ i j u, (accC (tr.getD i ⟨0, false, 0, 0⟩))[j]? = some u → i < tr.length → j < 4 → w.cell? ⟨g, i * 4 + j, none⟩ = some u) := by
    rcases o2.2 with ⟨e, h⟩ | ⟨g, cap, cur, e, _, _, hc, _⟩
    · exact ⟨none, 0, by rw [e, h], fun h' => by omega⟩
    · refine ⟨_, cap, e, fun _ => ⟨g, rfl, hc, fun i j u hu hi hj => ?_⟩⟩
      have := o2.cells (g := g) (by rw [e]; rfl) (i * 4 + j) u (by rw [acc_get tr i j hi hj, ← hu]; simp [List.getD, hi])
      rwa [add_lit] at this
  subst hv1 hv2
  clear o1 o2
  generalize tr.length = n at *
  have H1 : Hid _ := h1
  have H2 : Hid _ := h2
  clear h1 h2
  have hn' : (n : Int) ≤ 1000 := by omega
  go_enter Tryd.func61, Tryd.ntmps61
  go_wp2_with fail
  go_loopw [5] (fun i wr => ∃ j q : Nat, j ≤ n ∧ i = .int .i64 j ∧ wr = w.drewN q) (fun i _ => n - (intOf i).toNat)
  case atStart => exact ⟨0, 0, Nat.zero_le _, rfl, rfl⟩
  case round =>
    obtain ⟨j, q, hj, rfl, rfl⟩ := hrel
    by_cases hlt : j < n
    · have hlt' : (j : Int) < n := by omega
      obtain ⟨g1, rfl, k1, f1⟩ := H1.out (by omega)
      obtain ⟨g2, rfl, k2, f2⟩ := H2.out (by omega)
      have p0 := f1 j 0 _ rfl hlt (by omega)
      have p1 := f1 j 1 _ rfl hlt (by omega)
      have p2 := f1 j 2 _ rfl hlt (by omega)
      have p3 := f1 j 3 _ rfl hlt (by omega)
      have r0 := f2 j 0 _ rfl hlt (by omega)
      have r1 := f2 j 1 _ rfl hlt (by omega)
      have r2 := f2 j 2 _ rfl hlt (by omega)
      have r3 := f2 j 3 _ rfl hlt (by omega)
      rw [Nat.add_zero] at p0 r0
      clear f1 f2
      generalize tr.getD j ⟨0, false, 0, 0⟩ = y at *
      go_wp2_with fail
      go_quiet (fail)
      go_wp2
      go_roundw
      case rel => exact ⟨j + 1, q + nq, by omega, by go_num, by simp⟩
      case measure => simp [intOf]; omega
    · have hlt' : ¬ (j : Int) < n := by omega
      go_wp2
      go_ret
      exact ⟨rfl, q, rfl⟩
end Go.Proofs.YtmfhimphlackiaaDoor
