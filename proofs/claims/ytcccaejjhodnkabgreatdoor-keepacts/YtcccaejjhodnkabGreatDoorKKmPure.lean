/-
  Rising numbers, as the document makes them: the same.
-/
import Derived.Test.YtcccaejjhodnkabGreatDoorQKmDrop
import Derived.Test.YtcccaejjhodnkabGreatDoorQDoc1
namespace Go.Proofs.YtcccaejjhodnkabGreatDoor
open Go.RowKit
set_option linter.unusedVariables false
/-- how many are less, from the first on -/
def cutM (p : Int) : List Int → Nat
  | [] => 0
  | x :: r => if x < p then cutM p r + 1 else 0
/-- one more, in its place -/
def insM (p : Int) (o : List Int) : List Int := if o[cutM p o]? = some p then o else o.take (cutM p o) ++ [p] ++ o.drop (cutM p o)
def mpgL (ps : List Int) : List Int := ps.foldl (fun o p => insM p o) []
theorem mpgL_snoc (ps : List Int) (p : Int) : mpgL (ps ++ [p]) = insM p (mpgL ps) := by unfold mpgL; simp
theorem cutM_le (p : Int) : ∀ o : List Int, cutM p o ≤ o.length
  | [] => Nat.le_refl _
  | x :: r => by
    unfold cutM
    split
    · have := cutM_le p r; simp; omega
    · simp
theorem cutM_eq {p : Int} : ∀ {o : List Int} {k : Nat}, k ≤ o.length → (∀ i x, i < k → o[i]? = some x → x < p) → (∀ x, o[k]? = some x → ¬ x < p) → cutM p o = k
  | [], k, hk, _, _ => by simp at hk; subst hk; rfl
  | x :: r, 0, hk, _, h2 => by
    unfold cutM
    rw [if_neg (h2 x rfl)]
  | x :: r, k + 1, hk, h1, h2 => by
    unfold cutM
    rw [if_pos (h1 0 x (by omega) rfl), cutM_eq (o := r) (k := k) (by simpa using hk) (fun i y hi hy => h1 (i + 1) y (by omega) (by simpa using hy)) (fun y hy => h2 y (by simpa using hy))]
theorem cutM_lt {p : Int} : ∀ {o : List Int} {i : Nat} {x : Int}, i < cutM p o → o[i]? = some x → x < p
  | [], i, x, h, _ => by simp [cutM] at h
  | y :: r, i, x, h, hx => by
    unfold cutM at h
    by_cases hy : y < p
    · rw [if_pos hy] at h
      cases i with
      | zero => simp at hx; omega
      | succ i => exact cutM_lt (o := r) (i := i) (by omega) (by simpa using hx)
    · rw [if_neg hy] at h; omega
theorem cutM_ge {p : Int} : ∀ {o : List Int} {x : Int}, o[cutM p o]? = some x → ¬ x < p
  | [], x, h => by simp at h
  | y :: r, x, h => by
    unfold cutM at h
    by_cases hy : y < p
    · rw [if_pos hy] at h
      exact cutM_ge (o := r) (by simpa using h)
    · rw [if_neg hy] at h
      simp at h; omega
abbrev Srt (l : List Int) : Prop := l.Pairwise (· < ·)
theorem srt_get {l : List Int} (h : Srt l) {i j : Nat} {x y : Int} (hij : i < j) (hx : l[i]? = some x) (hy : l[j]? = some y) : x < y := by
  obtain ⟨hi, e1⟩ := List.getElem?_eq_some_iff.1 hx
  obtain ⟨hj, e2⟩ := List.getElem?_eq_some_iff.1 hy
  have := List.pairwise_iff_getElem.1 h i j hi hj hij
  rw [e1, e2] at this; exact this
theorem insM_mem {p x : Int} {o : List Int} : x ∈ insM p o ↔ x = p ∨ x ∈ o := by
  unfold insM
  by_cases h : o[cutM p o]? = some p
  · rw [if_pos h]
    exact ⟨.inr, fun h1 => by rcases h1 with rfl | h1; exact List.mem_of_getElem? h; exact h1⟩
  · rw [if_neg h]
    have e : o = o.take (cutM p o) ++ o.drop (cutM p o) := (List.take_append_drop _ _).symm
    constructor
    · intro h1
      rcases List.mem_append.1 h1 with h1 | h1
      · rcases List.mem_append.1 h1 with h1 | h1
        · exact .inr (List.mem_of_mem_take h1)
        · exact .inl (by simpa using h1)
      · exact .inr (List.mem_of_mem_drop h1)
    · rintro (rfl | h1)
      · simp
      · rw [e] at h1
        rcases List.mem_append.1 h1 with h1 | h1
        · exact List.mem_append.2 (.inl (List.mem_append.2 (.inl h1)))
        · exact List.mem_append.2 (.inr h1)
theorem insM_srt {p : Int} {o : List Int} (h : Srt o) : Srt (insM p o) := by
  unfold insM
  by_cases hp : o[cutM p o]? = some p
  · rw [if_pos hp]; exact h
  · rw [if_neg hp]
    have e : o = o.take (cutM p o) ++ o.drop (cutM p o) := (List.take_append_drop _ _).symm
    have h2 : (o.take (cutM p o) ++ o.drop (cutM p o)).Pairwise (· < ·) := by rw [← e]; exact h
    have h3 := List.pairwise_append.1 h2
    have lt1 : ∀ x ∈ o.take (cutM p o), x < p := fun x hx => by
      obtain ⟨i, hi⟩ := List.getElem?_of_mem hx
      have hil : i < cutM p o := by have := (List.getElem?_eq_some_iff.1 hi).1; rw [List.length_take] at this; omega
      rw [List.getElem?_take, if_pos hil] at hi
      exact cutM_lt hil hi
    have lt2 : ∀ y ∈ o.drop (cutM p o), p < y := fun y hy => by
      obtain ⟨i, hi⟩ := List.getElem?_of_mem hy
      rw [List.getElem?_drop] at hi
      have hlt := (List.getElem?_eq_some_iff.1 hi).1
      obtain ⟨z, hz⟩ : ∃ z, o[cutM p o]? = some z := ⟨_, List.getElem?_eq_getElem (by omega)⟩
      have h4 := cutM_ge hz
      have h5 : z ≠ p := fun e => hp (by rw [hz, e])
      cases i with
      | zero => rw [Nat.add_zero, hz] at hi; obtain rfl := Option.some.inj hi; omega
      | succ i => have := srt_get h (by omega) hz hi; omega
    rw [List.append_assoc]
    refine List.pairwise_append.2 ⟨h3.1, ?_, fun x hx y hy => ?_⟩
    · show (p :: o.drop (cutM p o)).Pairwise (· < ·)
      exact List.pairwise_cons.2 ⟨lt2, h3.2.1⟩
    · rcases List.mem_append.1 hy with hy | hy
      · have hyp : y = p := by simpa using hy
        rw [hyp]; exact lt1 x hx
      · have := lt1 x hx; have := lt2 y hy; omega
theorem mpgL_srt (ps : List Int) : Srt (mpgL ps) := by
  unfold mpgL
  have : ∀ (ps o : List Int), Srt o → Srt (ps.foldl (fun o p => insM p o) o) := fun ps => by
    induction ps with
    | nil => intro o h; exact h
    | cons p r ih => intro o h; exact ih _ (insM_srt h)
  exact this ps [] List.Pairwise.nil
theorem mpgL_mem {ps : List Int} {x : Int} : x ∈ mpgL ps ↔ x ∈ ps := by
  unfold mpgL
  have : ∀ (ps o : List Int), x ∈ ps.foldl (fun o p => insM p o) o ↔ x ∈ ps ∨ x ∈ o := fun ps => by
    induction ps with
    | nil => intro o; simp
    | cons p r ih => intro o; rw [List.foldl_cons, ih, insM_mem]; simp only [List.mem_cons]; exact ⟨fun h => h.elim (fun h => .inl (.inr h)) (fun h => h.elim (fun h => .inl (.inl h)) .inr), fun h => h.elim (fun h => h.elim (fun h => .inr (.inl h)) .inl) (fun h => .inr (.inr h))⟩
  rw [this]; simp
theorem srt_eq : ∀ {a b : List Int}, Srt a → Srt b → (∀ x, x ∈ a ↔ x ∈ b) → a = b
  | [], [], _, _, _ => rfl
  | [], y :: s, _, _, h => by have := (h y).2 (List.mem_cons_self ..); cases this
  | x :: r, [], _, _, h => by have := (h x).1 (List.mem_cons_self ..); cases this
  | x :: r, y :: s, ha, hb, h => by
    have ha' := List.pairwise_cons.1 ha
    have hb' := List.pairwise_cons.1 hb
    have hxy : x = y := by
      rcases List.mem_cons.1 ((h x).1 (List.mem_cons_self ..)) with e | e
      · exact e
      · rcases List.mem_cons.1 ((h y).2 (List.mem_cons_self ..)) with e' | e'
        · exact e'.symm
        · have := ha'.1 y e'; have := hb'.1 x e; omega
    subst hxy
    rw [srt_eq ha'.2 hb'.2 fun z => ?_]
    constructor
    · intro hz
      rcases List.mem_cons.1 ((h z).1 (List.mem_cons_of_mem _ hz)) with e | e
      · have := ha'.1 z hz; omega
      · exact e
    · intro hz
      rcases List.mem_cons.1 ((h z).2 (List.mem_cons_of_mem _ hz)) with e | e
      · have := hb'.1 z hz; omega
      · exact e
theorem rise_srt (zs : List Int) : Srt (rise zs) := by
  unfold rise
  obtain ⟨s, hs⟩ : ∃ s, (zs.mergeSort fun x y => decide (x ≤ y)) = s := ⟨_, rfl⟩
  have hsort : s.Pairwise (fun x y => x ≤ y) := by
    have := List.pairwise_mergeSort (le := fun x y : Int => decide (x ≤ y)) (fun a b c h1 h2 => by simp at *; omega) (fun a b => by simp; omega) zs
    rw [hs] at this
    exact this.imp (by simp)
  rw [hs]
  have at_ : ∀ i (hi : i < s.length), s.toArray[i]! = s[i] := fun i hi => by simp [getElem!_pos, hi]
  have le : ∀ i j (hi : i < s.length) (hj : j < s.length), i ≤ j → s[i] ≤ s[j] := fun i j hi hj hij => by
    rcases Nat.lt_or_eq_of_le hij with h | h
    · exact List.pairwise_iff_getElem.1 hsort i j hi hj h
    · subst h; exact Int.le_refl _
  unfold Lib.compact Lib.compactUpTo
  refine List.pairwise_map.2 ?_
  have hr : ((List.range s.length).filter (Lib.keeps s.toArray)).Pairwise (· < ·) := List.Pairwise.filter _ List.pairwise_lt_range
  refine List.Pairwise.imp_of_mem ?_ hr
  intro i j hi hj hij
  have hil : i < s.length := List.mem_range.1 (List.mem_filter.1 hi).1
  have hjl : j < s.length := List.mem_range.1 (List.mem_filter.1 hj).1
  have hk := (List.mem_filter.1 hj).2
  unfold Lib.keeps at hk
  have hk2 : j = 0 ∨ s.toArray[j]! ≠ s.toArray[j - 1]! := of_decide_eq_true hk
  rw [at_ i hil, at_ j hjl]
  rcases hk2 with h | h
  · omega
  · rw [at_ j hjl, at_ (j - 1) (by omega)] at h
    have h1 := le i (j - 1) hil (by omega) (by omega)
    have h2 := le (j - 1) j (by omega) hjl (by omega)
    omega
theorem rise_mpgL (ps : List Int) : rise ps = mpgL ps := srt_eq (rise_srt ps) (mpgL_srt ps) fun x => by rw [mem_rise, mpgL_mem]
end Go.Proofs.YtcccaejjhodnkabGreatDoor
/-
  The document's ReadsOf.
-/
namespace Go.Proofs.YtcccaejjhodnkabGreatDoor
open Go.RowKit Go.Maps
open Num
set_option linter.unusedVariables false
end Go.Proofs.YtcccaejjhodnkabGreatDoor
/-
  The document's OpError.
-/
namespace Go.Proofs.YtcccaejjhodnkabGreatDoor
open Go.RowKit
open Num
set_option linter.unusedVariables false
set_option maxHeartbeats 1000000 in
theorem isSize_any (n : Int) (ld : Bool) (w : World) : Calls Tryz.prog 61 #[.int .i64 n, .bool ld] w fun e w' => e = .returned (.bool (alw (if ld = true then 3 else 4) n)) ∧ w' = w := by
  cases ld with
  | false =>
    have e0 : Hid (alw 4 n = ((n == 1) || (n == 2) || (n == 4))) := by show _ = _; unfold alw; rw [Bool.eq_iff_iff]; simp; omega
    show Calls _ _ _ _ fun e w' => e = .returned (.bool (alw 4 n)) ∧ w' = w
    by_cases h1 : n = 1
    · subst h1
      go_enter Tryz.func61, Tryz.ntmps61
      go_wp2
      go_ret
      exact ⟨by rw [e0.out]; rfl, rfl⟩
    by_cases h2 : n = 2
    · subst h2
      go_enter Tryz.func61, Tryz.ntmps61
      go_wp2
      go_ret
      exact ⟨by rw [e0.out]; rfl, rfl⟩
    by_cases h4 : n = 4
    · subst h4
      go_enter Tryz.func61, Tryz.ntmps61
      go_wp2
      go_ret
      exact ⟨by rw [e0.out]; rfl, rfl⟩
    have g1 : (n == 1) = false := by simpa using h1
    have g2 : (n == 2) = false := by simpa using h2
    have g4 : (n == 4) = false := by simpa using h4
    have e1 : Hid (alw 4 n = false) := by show _ = _; rw [e0.out, g1, g2, g4]; rfl
    clear h1 h2 h4
    go_enter Tryz.func61, Tryz.ntmps61
    go_wp2
    go_ret
    exact ⟨by rw [e1.out]; simp, rfl⟩
  | true =>
    have e0 : Hid (alw 3 n = ((n == 1) || (n == 2) || (n == 4) || (n == -1) || (n == -2))) := by show _ = _; unfold alw; rw [Bool.eq_iff_iff]; simp; omega
    show Calls _ _ _ _ fun e w' => e = .returned (.bool (alw 3 n)) ∧ w' = w
    by_cases h1 : n = 1
    · subst h1
      go_enter Tryz.func61, Tryz.ntmps61
      go_wp2
      go_ret
      exact ⟨by rw [e0.out]; rfl, rfl⟩
    by_cases h2 : n = 2
    · subst h2
      go_enter Tryz.func61, Tryz.ntmps61
      go_wp2
      go_ret
      exact ⟨by rw [e0.out]; rfl, rfl⟩
    by_cases h4 : n = 4
    · subst h4
      go_enter Tryz.func61, Tryz.ntmps61
      go_wp2
      go_ret
      exact ⟨by rw [e0.out]; rfl, rfl⟩
    by_cases hm1 : n = -1
    · subst hm1
      go_enter Tryz.func61, Tryz.ntmps61
      go_wp2
      go_ret
      exact ⟨by rw [e0.out]; rfl, rfl⟩
    by_cases hm2 : n = -2
    · subst hm2
      go_enter Tryz.func61, Tryz.ntmps61
      go_wp2
      go_ret
      exact ⟨by rw [e0.out]; rfl, rfl⟩
    have g1 : (n == 1) = false := by simpa using h1
    have g2 : (n == 2) = false := by simpa using h2
    have g4 : (n == 4) = false := by simpa using h4
    have gm1 : (n == -1) = false := by simpa using hm1
    have gm2 : (n == -2) = false := by simpa using hm2
    have e1 : Hid (alw 3 n = false) := by show _ = _; rw [e0.out, g1, g2, g4, gm1, gm2]; rfl
    clear h1 h2 h4 hm1 hm2
    go_enter Tryz.func61, Tryz.ntmps61
    go_wp2
    go_ret
    exact ⟨by rw [e1.out]; simp, rfl⟩
/-- six cells of an op in a box -/
structure BoxOd (W : World) (x : Nat) (o : Opx) : Prop where
  c0 : W.cell? ⟨x, 0, none⟩ = some (.string o.s)
  c1 : W.cell? ⟨x, 1, none⟩ = some (.int .i64 o.d)
  c2 : W.cell? ⟨x, 2, none⟩ = some (.int .i64 o.a)
  c3 : W.cell? ⟨x, 3, none⟩ = some (.int .i64 o.b)
  c4 : W.cell? ⟨x, 4, none⟩ = some (.int .u32 o.i)
  c5 : W.cell? ⟨x, 5, none⟩ = some (.int .i64 o.t)
theorem BoxOd.new (w : World) (o : Opx) : BoxOd (w.alloc (.cells #[.string o.s, .int .i64 o.d, .int .i64 o.a, .int .i64 o.b, .int .u32 o.i, .int .i64 o.t] 64)) w.heap.size o := ⟨bcD, bcD, bcD, bcD, bcD, bcD⟩
theorem opE_2 {o : Opx} {many : Int} (h0 : o.k ≠ 0) (h : bndB o many = false) : opE o many = 2 := by unfold opE; rw [if_neg h0, if_pos h]
theorem opE_3 {o : Opx} {many : Int} (h0 : o.k ≠ 0) (h : bndB o many = true) (h2 : shpB o = false) : opE o many = 3 := by unfold opE; rw [if_neg h0, if_neg (by rw [h]; simp), if_pos h2]
theorem opE_0 {o : Opx} {many : Int} (h0 : o.k ≠ 0) (h : bndB o many = true) (h2 : shpB o = true) : opE o many = 0 := by unfold opE; rw [if_neg h0, if_neg (by rw [h]; simp), if_neg (by rw [h2]; simp)]
end Go.Proofs.YtcccaejjhodnkabGreatDoor
