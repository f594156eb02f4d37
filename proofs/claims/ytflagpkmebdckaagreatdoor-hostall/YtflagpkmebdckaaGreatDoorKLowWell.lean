/-
  The ops that instructions are made are well.
-/
import Derived.Test.YtflagpkmebdckaaGreatDoorKOptPure
import Derived.Test.YtflagpkmebdckaaGreatDoorKIrChk2
import Derived.Test.YtflagpkmebdckaaGreatDoorKKDecode
import Derived.Test.YtflagpkmebdckaaGreatDoorKModel
import Derived.Test.YtflagpkmebdckaaGreatDoorKMk6
import Derived.Test.YtflagpkmebdckaaGreatDoorKLw7
import Derived.Test.YtflagpkmebdckaaGreatDoorQLw9
import Derived.Test.YtflagpkmebdckaaGreatDoorKGHost3
import Derived.Test.YtflagpkmebdckaaGreatDoorKBack
import Derived.Test.YtflagpkmebdckaaGreatDoorKOptDrop
namespace Go.Proofs.YtflagpkmebdckaaGreatDoor.Low
open Num
set_option linter.unusedVariables false
theorem opx_k {n : Nat} (h1 : 1 ≤ n) (h2 : n < 28) (d a b i t : Int) : (opx n d a b i t).k = n := kn_kind n h1 h2
theorem opx_E {n : Nat} {d a b i t many : Int} (h1 : 1 ≤ n) (h2 : n < 28) (hD : alw (rD n) d = true) (hD' : rD n ≠ 0 ∨ d = 0) (hA : alw (rA n) a = true) (hA' : rA n ≠ 0 ∨ a = 0) (hB : alw (rB n) b = true) (hB' : rB n ≠ 0 ∨ b = 0) (hI : rI n = true ∨ i = 0) (t0 : 0 ≤ t) (t1 : t < many) : opE (opx n d a b i t) many = 0 := by
  have hk := opx_k h1 h2 d a b i t
  unfold opE
  rw [hk, if_neg (by omega)]
  have e1 : bndB (opx n d a b i t) many = true := by
    unfold bndB; rw [hk]
    show (alw (rD n) d && alw (rA n) a && alw (rB n) b && decide (0 ≤ t) && decide (t < many)) = true
    simp [hD, hA, hB, t0, t1]
  have e2 : shpB (opx n d a b i t) = true := by
    unfold shpB; rw [hk]
    show ((decide (rD n ≠ 0) || decide (d = 0)) && (decide (rA n ≠ 0) || decide (a = 0)) && (decide (rB n ≠ 0) || decide (b = 0)) && (rI n || decide (i = 0))) = true
    simp only [Bool.and_eq_true, Bool.or_eq_true, decide_eq_true_eq]
    exact ⟨⟨⟨hD', hA'⟩, hB'⟩, hI⟩
  rw [e1, e2]; rfl
theorem alw1 {n : Int} (h0 : 0 ≤ n) (h1 : n < 64) : alw 1 n = true := by unfold alw; simp; omega
theorem alw2 {n : Int} (h0 : 1 ≤ n) (h1 : n < 64) : alw 2 n = true := by unfold alw; simp; omega
/-- an op that is well, of instruction n, and no end -/
def OpOk (many n : Int) (o : Opx) : Prop := opE o many = 0 ∧ outB o = false ∧ o.t = n
theorem opx_ok {k : Nat} {d a b i t many : Int} (h1 : 1 ≤ k) (h2 : k < 26) (h : opE (opx k d a b i t) many = 0) : OpOk many t (opx k d a b i t) :=
  ⟨h, by unfold outB; rw [opx_k h1 (by omega)]; simp; omega, rfl⟩
section
variable {many n : Int} (n0 : 0 ≤ n) (n1 : n < many)
include n0 n1
theorem op_set_ok {d i : Int} (h0 : 1 ≤ d) (h1 : d < 64) : OpOk many n (opx 1 d 0 0 i n) :=
  opx_ok (by omega) (by omega) (opx_E (by omega) (by omega) (alw2 h0 h1) (.inl (by decide)) rfl (.inr rfl) rfl (.inr rfl) (.inl rfl) n0 n1)
theorem op_copy_ok {d a : Int} (h0 : 1 ≤ d) (h1 : d < 64) (a0 : 0 ≤ a) (a1 : a < 64) : OpOk many n (opx 2 d a 0 0 n) :=
  opx_ok (by omega) (by omega) (opx_E (by omega) (by omega) (alw2 h0 h1) (.inl (by decide)) (alw1 a0 a1) (.inl (by decide)) rfl (.inr rfl) (.inr rfl) n0 n1)
theorem op_sum_ok {k : Nat} {d a b : Int} (k0 : 3 ≤ k) (k1 : k ≤ 20) (h0 : 1 ≤ d) (h1 : d < 64) (a0 : 0 ≤ a) (a1 : a < 64) (b0 : 0 ≤ b) (b1 : b < 64) : OpOk many n (opx k d a b 0 n) := by
  have e1 : rD k = 2 := by unfold rD; rw [if_pos (by omega)]
  have e2 : rA k = 1 := by unfold rA; rw [if_pos (by omega)]
  have e3 : rB k = 1 := by unfold rB; rw [if_pos (by omega)]
  exact opx_ok (by omega) (by omega) (opx_E (by omega) (by omega) (by rw [e1]; exact alw2 h0 h1) (.inl (by omega)) (by rw [e2]; exact alw1 a0 a1) (.inl (by omega)) (by rw [e3]; exact alw1 b0 b1) (.inl (by omega)) (.inr rfl) n0 n1)
theorem op_over_ok {k : Nat} {a b : Int} (hk : k = 21 ∨ k = 22) (a0 : 0 ≤ a) (a1 : a < 64) (b0 : 0 ≤ b) (b1 : b < 64) : OpOk many n (opx k 0 a b 0 n) := by
  have e1 : rD k = 0 := by unfold rD; rw [if_neg (by omega), if_neg (by omega)]
  have e2 : rA k = 1 := by unfold rA; rw [if_pos (by omega)]
  have e3 : rB k = 1 := by unfold rB; rw [if_pos (by omega)]
  exact opx_ok (by omega) (by omega) (opx_E (by omega) (by omega) (by rw [e1]; rfl) (.inr rfl) (by rw [e2]; exact alw1 a0 a1) (.inl (by omega)) (by rw [e3]; exact alw1 b0 b1) (.inl (by omega)) (.inr rfl) n0 n1)
theorem op_load_ok {d a b i : Int} (h0 : 1 ≤ d) (h1 : d < 64) (a0 : 0 ≤ a) (a1 : a < 64) (hb : b = 1 ∨ b = 2 ∨ b = 4 ∨ b = -1 ∨ b = -2) : OpOk many n (opx 23 d a b i n) :=
  opx_ok (by omega) (by omega) (opx_E (by omega) (by omega) (alw2 h0 h1) (.inl (by decide)) (alw1 a0 a1) (.inl (by decide)) (by show alw 3 b = true; unfold alw; simpa using hb) (.inl (by decide)) (.inl rfl) n0 n1)
theorem store_ok' {d a b i : Int} (hd : d = 1 ∨ d = 2 ∨ d = 4) (a0 : 0 ≤ a) (a1 : a < 64) (b0 : 0 ≤ b) (b1 : b < 64) : OpOk many n (opx 24 d a b i n) :=
  opx_ok (by omega) (by omega) (opx_E (by omega) (by omega) (by show alw 4 d = true; unfold alw; simpa using hd) (.inl (by decide)) (alw1 a0 a1) (.inl (by decide)) (alw1 b0 b1) (.inl (by decide)) (.inl rfl) n0 n1)
omit n0 n1 in
theorem wrO_ok {o : Opx} (h : o.d ≠ 0 → OpOk many n o) : ∀ p ∈ wrO o, OpOk many n p := by
  intro p hp
  unfold wrO at hp
  split at hp
  · cases hp
  · rename_i h0; simp at hp; subst hp; exact h h0
omit n0 n1 in
theorem rsK_bd (k : Nat) : 3 ≤ rsK k ∧ rsK k ≤ 13 := by
  unfold rsK
  repeat (first | (split; · omega) | omega)
omit n0 n1 in
theorem ovK_cases (k : Nat) : ovK k = 0 ∨ ovK k = 21 ∨ ovK k = 22 := by
  unfold ovK
  repeat (first | (split; · omega) | omega)
theorem resL_ok {i : Ix} (I : InsOk i) : ∀ o ∈ resL i n, OpOk many n o := by
  have hD : 0 ≤ oD i.n i ∧ oD i.n i < 32 := by have := I.t0; have := I.t1; have := I.d0; have := I.d1; unfold oD; split <;> omega
  have hA : 0 ≤ oA i.n i ∧ oA i.n i < 32 := by have := I.t0; have := I.t1; have := I.s0; have := I.s1; unfold oA; split <;> omega
  have hB : 0 ≤ oB i.n i ∧ oB i.n i < 64 := by
    have := I.t0; have := I.t1; have := I.s0; have := I.s1; unfold oB
    repeat (first | (split; · omega) | omega)
  have hr := rsK_bd i.n
  have hv := ovK_cases i.n
  intro o ho
  unfold resL at ho
  split at ho
  · cases ho
  simp only [List.mem_append] at ho
  rcases ho with (ho | ho) | ho
  · split at ho
    · simp at ho; subst ho; exact op_set_ok n0 n1 (by omega) (by omega)
    · cases ho
  · split at ho
    · cases ho
    · rename_i h0; simp at ho; subst ho; exact op_over_ok n0 n1 (by omega) (by omega) (by omega) (by omega) (by omega)
  · exact wrO_ok (fun h => op_sum_ok n0 n1 (by omega) (by omega) (by have : oD i.n i ≠ 0 := h; omega) (by omega) (by omega) (by omega) (by omega) (by omega)) o ho
theorem hiLoL_ok {h l : Nat} {i : Ix} (I : InsOk i) (h0 : 3 ≤ h) (h1 : h ≤ 20) (l0 : 3 ≤ l) (l1 : l ≤ 20) : ∀ o ∈ hiLoL h l i n, OpOk many n o := by
  have := I.s0; have := I.s1; have := I.t0; have := I.t1
  intro o ho
  unfold hiLoL at ho
  simp at ho
  rcases ho with rfl | rfl
  · exact op_sum_ok n0 n1 h0 h1 (by omega) (by omega) (by omega) (by omega) (by omega) (by omega)
  · exact op_sum_ok n0 n1 l0 l1 (by omega) (by omega) (by omega) (by omega) (by omega) (by omega)
theorem sumL_ok {i : Ix} (I : InsOk i) : ∀ o ∈ sumL i n, OpOk many n o := by
  have := I.s0; have := I.s1; have := I.t0; have := I.t1; have := I.d0; have := I.d1
  unfold sumL
  split
  · exact hiLoL_ok n0 n1 I (by omega) (by omega) (by omega) (by omega)
  split
  · exact hiLoL_ok n0 n1 I (by omega) (by omega) (by omega) (by omega)
  split
  · exact hiLoL_ok n0 n1 I (by omega) (by omega) (by omega) (by omega)
  split
  · exact hiLoL_ok n0 n1 I (by omega) (by omega) (by omega) (by omega)
  split
  · exact wrO_ok fun h => op_copy_ok n0 n1 (by have : i.d ≠ 0 := h; omega) (by omega) (by omega) (by omega)
  split
  · exact wrO_ok fun h => op_copy_ok n0 n1 (by have : i.d ≠ 0 := h; omega) (by omega) (by omega) (by omega)
  split
  · intro o ho; simp at ho; subst ho; exact op_copy_ok n0 n1 (by omega) (by omega) (by omega) (by omega)
  split
  · intro o ho; simp at ho; subst ho; exact op_copy_ok n0 n1 (by omega) (by omega) (by omega) (by omega)
  split
  · exact wrO_ok fun h => op_set_ok n0 n1 (by have : i.t ≠ 0 := h; omega) (by omega)
  · exact resL_ok n0 n1 I
theorem brL_ok {pc : Int} {i : Ix} (I : InsOk i) : ∀ o ∈ brL pc i n, OpOk many n o := by
  have := I.s0; have := I.s1; have := I.t0; have := I.t1; have := I.d0; have := I.d1
  intro o ho
  unfold brL at ho
  simp only [List.mem_append] at ho
  rcases ho with ho | ho
  · split at ho
    · simp at ho; subst ho; exact op_sum_ok n0 n1 (by omega) (by omega) (by omega) (by omega) (by omega) (by omega) (by omega) (by omega)
    split at ho
    · simp at ho; subst ho; exact op_sum_ok n0 n1 (by omega) (by omega) (by omega) (by omega) (by omega) (by omega) (by omega) (by omega)
    split at ho
    · simp at ho; subst ho; exact op_copy_ok n0 n1 (by omega) (by omega) (by omega) (by omega)
    · cases ho
  · split at ho
    · simp at ho; subst ho; exact op_set_ok n0 n1 (by omega) (by omega)
    split at ho
    · exact wrO_ok (fun h => op_set_ok n0 n1 (by have : i.d ≠ 0 := h; omega) (by omega)) o ho
    · cases ho
omit n0 n1 in
theorem szX_cases (k : Nat) : szI k = 1 ∨ szI k = 2 ∨ szI k = 4 := by unfold szI; split; simp; split; simp; simp
omit n0 n1 in
theorem szX_signed {k : Nat} (h : sgI k = true) : szI k = 1 ∨ szI k = 2 := by unfold sgI at h; simp at h; rcases h with rfl | rfl <;> decide
theorem ldL_ok {i : Ix} (I : InsOk i) : ∀ o ∈ ldL i n, OpOk many n o := by
  have := I.s0; have := I.s1; have := I.t0; have := I.t1
  intro o ho
  unfold ldL at ho
  simp only [List.mem_singleton] at ho
  subst ho
  refine op_load_ok n0 n1 (by split <;> omega) (by split <;> omega) (by omega) (by omega) ?_
  split
  · rename_i h; rcases szX_signed h with e | e <;> omega
  · rcases szX_cases i.n with e | e | e <;> omega
theorem stL_ok {i : Ix} (I : InsOk i) : ∀ o ∈ stL i n, OpOk many n o := by
  have := I.s0; have := I.s1; have := I.t0; have := I.t1
  intro o ho
  unfold stL at ho
  simp only [List.mem_singleton] at ho
  subst ho
  exact store_ok' n0 n1 (szX_cases i.n) (by omega) (by omega) (by omega) (by omega)
theorem insX_ok {pc : Int} {i : Ix} (I : InsOk i) : ∀ o ∈ insX pc i n, OpOk many n o := by
  unfold insX
  split
  · exact brL_ok n0 n1 I
  split
  · exact ldL_ok n0 n1 I
  split
  · exact stL_ok n0 n1 I
  · exact sumL_ok n0 n1 I
end
theorem wrO_len (o : Opx) : (wrO o).length ≤ 1 := by unfold wrO; split <;> simp
theorem insX_len (pc : Int) (i : Ix) (n : Int) : (insX pc i n).length ≤ 3 := by
  have h1 : (brL pc i n).length ≤ 3 := by
    unfold brL
    rw [List.length_append]
    have a : (if i.n = 31 ∨ i.n = 32 then [opx 7 35 i.s i.t 0 n] else if i.n = 33 ∨ i.n = 34 then [opx 9 35 0 i.s 0 n] else if i.n = 7 ∨ i.n = 8 then [opx 2 35 i.s 0 0 n] else []).length ≤ 1 := by
      split; simp; split; simp; split <;> simp
    have b : (if i.n = 30 then [opx 1 31 0 0 (linkI pc n) n] else if i.n = 8 then wrO (opx 1 i.d 0 0 (linkI pc n) n) else []).length ≤ 1 := by
      split; simp; split; exact wrO_len _; simp
    omega
  have h2 : (resL i n).length ≤ 3 := by
    unfold resL
    split
    · simp
    · rw [List.length_append, List.length_append]
      have a : (if oB i.n i = 34 then [opx 1 34 0 0 (immI i.n i.m) n] else []).length ≤ 1 := by split <;> simp
      have b : (if ovK i.n = 0 then [] else [opx (ovK i.n) 0 (oA i.n i) (oB i.n i) 0 n]).length ≤ 1 := by split <;> simp
      have := wrO_len (opx (rsK i.n) (oD i.n i) (oA i.n i) (oB i.n i) 0 n)
      omega
  have h3 : (sumL i n).length ≤ 3 := by
    unfold sumL
    repeat (first | (split; · first | (simp [hiLoL]; done) | (exact Nat.le_trans (wrO_len _) (by omega))) | exact h2)
  unfold insX
  split
  · exact h1
  split
  · simp [ldL]
  split
  · simp [stL]
  · exact h3
theorem strs_app (a b : List Opx) : strs (a ++ b) = strs a + strs b := by unfold strs; simp
theorem strs_none {l : List Opx} (h : ∀ o ∈ l, o.k ≠ 24) : strs l = 0 := by
  unfold strs
  rw [List.length_eq_zero_iff, List.filter_eq_nil_iff]
  intro o ho; simpa using h o ho
theorem wrO_k {o : Opx} (h : o.k ≠ 24) : ∀ p ∈ wrO o, p.k ≠ 24 := by
  intro p hp; unfold wrO at hp; split at hp
  · cases hp
  · simp at hp; subst hp; exact h
theorem opx_k24 {n : Nat} (h1 : 1 ≤ n) (h2 : n < 28) (h : n ≠ 24) (d a b i t : Int) : (opx n d a b i t).k ≠ 24 := by rw [opx_k h1 h2]; exact h
theorem insX_strs (pc : Int) (i : Ix) (n : Int) : strs (insX pc i n) = if i.kd = 5 then 1 else 0 := by
  have hr := rsK_bd i.n
  have hv := ovK_cases i.n
  unfold insX
  split
  · rename_i h; rw [if_neg (by omega)]
    refine strs_none fun o ho => ?_
    unfold brL at ho
    simp only [List.mem_append] at ho
    rcases ho with ho | ho
    · split at ho
      · simp at ho; subst ho; exact opx_k24 (by omega) (by omega) (by omega) _ _ _ _ _
      split at ho
      · simp at ho; subst ho; exact opx_k24 (by omega) (by omega) (by omega) _ _ _ _ _
      split at ho
      · simp at ho; subst ho; exact opx_k24 (by omega) (by omega) (by omega) _ _ _ _ _
      · cases ho
    · split at ho
      · simp at ho; subst ho; exact opx_k24 (by omega) (by omega) (by omega) _ _ _ _ _
      split at ho
      · exact wrO_k (opx_k24 (by omega) (by omega) (by omega) _ _ _ _ _) o ho
      · cases ho
  split
  · rename_i h; rw [if_neg (by omega)]
    refine strs_none fun o ho => ?_
    unfold ldL at ho; simp only [List.mem_singleton] at ho; subst ho; exact opx_k24 (by omega) (by omega) (by omega) _ _ _ _ _
  split
  · rename_i h; rfl
  · rename_i h; 
    refine strs_none fun o ho => ?_
    have hhl : ∀ {a b : Nat}, 1 ≤ a → a < 24 → 1 ≤ b → b < 24 → o ∈ hiLoL a b i n → o.k ≠ 24 := fun a0 a1 b0 b1 hm => by
      unfold hiLoL at hm; simp only [List.mem_cons, List.not_mem_nil, or_false] at hm
      rcases hm with rfl | rfl
      · exact opx_k24 a0 (by omega) (by omega) _ _ _ _ _
      · exact opx_k24 b0 (by omega) (by omega) _ _ _ _ _
    unfold sumL at ho
    split at ho
    · exact hhl (by omega) (by omega) (by omega) (by omega) ho
    split at ho
    · exact hhl (by omega) (by omega) (by omega) (by omega) ho
    split at ho
    · exact hhl (by omega) (by omega) (by omega) (by omega) ho
    split at ho
    · exact hhl (by omega) (by omega) (by omega) (by omega) ho
    split at ho
    · exact wrO_k (opx_k24 (by omega) (by omega) (by omega) _ _ _ _ _) o ho
    split at ho
    · exact wrO_k (opx_k24 (by omega) (by omega) (by omega) _ _ _ _ _) o ho
    split at ho
    · simp only [List.mem_singleton] at ho; subst ho; exact opx_k24 (by omega) (by omega) (by omega) _ _ _ _ _
    split at ho
    · simp only [List.mem_singleton] at ho; subst ho; exact opx_k24 (by omega) (by omega) (by omega) _ _ _ _ _
    split at ho
    · exact wrO_k (opx_k24 (by omega) (by omega) (by omega) _ _ _ _ _) o ho
    unfold resL at ho
    split at ho
    · cases ho
    simp only [List.mem_append] at ho
    rcases ho with (ho | ho) | ho
    · split at ho
      · simp only [List.mem_singleton] at ho; subst ho; exact opx_k24 (by omega) (by omega) (by omega) _ _ _ _ _
      · cases ho
    · split at ho
      · cases ho
      · simp only [List.mem_singleton] at ho; subst ho; exact opx_k24 (by omega) (by omega) (by omega) _ _ _ _ _
    · exact wrO_k (opx_k24 (by omega) (by omega) (by omega) _ _ _ _ _) o ho
theorem wellL_head {many n : Int} : ∀ (a b : List Opx) (ah : Int), (∀ o ∈ a, OpOk many n o) → ah ≤ n → wellL many n b → wellL many ah (a ++ b)
  | [], b, ah, _, h, hb => by
    cases b with
    | nil => trivial
    | cons o l => exact ⟨hb.1, by have := hb.2.1; omega, hb.2.2.1, hb.2.2.2⟩
  | o :: a, b, ah, ha, h, hb => by
    have ho := ha o (by simp)
    refine ⟨ho.1, (by rw [ho.2.2]; exact h), (fun e => by rw [ho.2.1] at e; exact absurd e (by decide)), ?_⟩
    exact wellL_head a b o.t (fun p hp => ha p (by simp [hp])) (by rw [ho.2.2]; exact Int.le_refl _) hb
theorem insXs_well {many : Int} (pc : Int) : ∀ (l : List Ix) (n : Int) (b : List Opx), 0 ≤ n → n + l.length ≤ many → (∀ i ∈ l, InsOk i) → wellL many (n + l.length - 1) b → wellL many (n - 1) (insXs pc l n ++ b)
  | [], n, b, _, _, _, hb => by simpa [insXs] using hb
  | i :: l, n, b, n0, n1, hi, hb => by
    have e : ((i :: l).length : Int) = l.length + 1 := by simp
    rw [e] at n1 hb
    show wellL many (n - 1) ((insX pc i n ++ insXs pc l (n + 1)) ++ b)
    rw [List.append_assoc]
    refine wellL_head _ _ _ (insX_ok n0 (by omega) (hi i (by simp))) (by omega) ?_
    have := insXs_well (many := many) pc l (n + 1) b (by omega) (by omega) (fun q hq => hi q (by simp [hq])) (by rwa [show n + 1 + (l.length : Int) - 1 = n + (l.length + 1) - 1 by omega])
    rwa [show n + 1 - 1 = n by omega] at this
theorem insXs_len (pc : Int) : ∀ (l : List Ix) (n : Int), (insXs pc l n).length ≤ 3 * l.length
  | [], n => by simp [insXs]
  | i :: l, n => by
    show (insX pc i n ++ insXs pc l (n + 1)).length ≤ _
    rw [List.length_append]
    have := insX_len pc i n; have := insXs_len pc l (n + 1); simp only [List.length_cons]; omega
theorem insXs_strs (pc : Int) : ∀ (l : List Ix) (n : Int), strs (insXs pc l n) = stI l
  | [], n => rfl
  | i :: l, n => by
    show strs (insX pc i n ++ insXs pc l (n + 1)) = _
    rw [strs_app, insX_strs, insXs_strs pc l]; rfl
theorem if_E {many n a i : Int} (n0 : 0 ≤ n) (n1 : n < many) (a0 : 0 ≤ a) (a1 : a < 64) : opE (opx 25 0 a 0 i n) many = 0 :=
  opx_E (by omega) (by omega) rfl (.inr rfl) (alw1 a0 a1) (.inl (by decide)) rfl (.inr rfl) (.inl rfl) n0 n1
theorem out_E {many n i : Int} (n0 : 0 ≤ n) (n1 : n < many) : opE (opx 26 0 0 0 i n) many = 0 :=
  opx_E (by omega) (by omega) rfl (.inr rfl) rfl (.inr rfl) rfl (.inr rfl) (.inl rfl) n0 n1
theorem outr_E {many n a : Int} (n0 : 0 ≤ n) (n1 : n < many) (a0 : 0 ≤ a) (a1 : a < 64) : opE (opx 27 0 a 0 0 n) many = 0 :=
  opx_E (by omega) (by omega) rfl (.inr rfl) (alw1 a0 a1) (.inl (by decide)) rfl (.inr rfl) (.inr rfl) n0 n1
/-- how a code ends -/
structure EndOk (many : Int) (l : List Opx) (n : Int) : Prop where
  well : wellL many n l
  last : ∃ o, l.getLast? = some o ∧ outB o = true
  st : strs l = 0
  len : l.length ≤ 2
theorem out_out (d a b i t : Int) : outB (opx 26 d a b i t) = true := by unfold outB; rw [opx_k (by omega) (by omega)]; rfl
theorem outr_out (d a b i t : Int) : outB (opx 27 d a b i t) = true := by unfold outB; rw [opx_k (by omega) (by omega)]; rfl
theorem if_out (d a b i t : Int) : outB (opx 25 d a b i t) = false := by unfold outB; rw [opx_k (by omega) (by omega)]; rfl
theorem end_out {many n i : Int} (n0 : 0 ≤ n) (n1 : n < many) : EndOk many [opx 26 0 0 0 i n] n :=
  ⟨⟨out_E n0 n1, Int.le_refl _, fun _ => rfl, trivial⟩, ⟨_, rfl, out_out _ _ _ _ _⟩, strs_none (by intro o ho; simp only [List.mem_singleton] at ho; subst ho; exact opx_k24 (by omega) (by omega) (by omega) _ _ _ _ _), by simp⟩
theorem end_outr {many n : Int} (n0 : 0 ≤ n) (n1 : n < many) : EndOk many [opx 27 0 35 0 0 n] n :=
  ⟨⟨outr_E n0 n1 (by omega) (by omega), Int.le_refl _, fun _ => rfl, trivial⟩, ⟨_, rfl, outr_out _ _ _ _ _⟩, strs_none (by intro o ho; simp only [List.mem_singleton] at ho; subst ho; exact opx_k24 (by omega) (by omega) (by omega) _ _ _ _ _), by simp⟩
theorem end_if {many n i j : Int} (n0 : 0 ≤ n) (n1 : n < many) : EndOk many [opx 25 0 35 0 i n, opx 26 0 0 0 j n] n :=
  ⟨⟨if_E n0 n1 (by omega) (by omega), Int.le_refl _, (fun e => by rw [if_out] at e; exact absurd e (by decide)), out_E n0 n1, Int.le_refl _, fun _ => rfl, trivial⟩, ⟨_, rfl, out_out _ _ _ _ _⟩, strs_none (by
    intro o ho; simp only [List.mem_cons, List.not_mem_nil, or_false] at ho
    rcases ho with rfl | rfl <;> exact opx_k24 (by omega) (by omega) (by omega) _ _ _ _ _), by simp⟩
theorem leaveL_ok (pc : Int) (l : List Ix) (h : 1 ≤ l.length) : EndOk l.length (leaveL pc l) ((l.length : Int) - 1) := by
  unfold leaveL
  split
  · unfold leaveB
    split
    · exact end_if (by omega) (by omega)
    split
    · exact end_if (by omega) (by omega)
    split
    · exact end_outr (by omega) (by omega)
    · exact end_out (by omega) (by omega)
  · exact end_out (by omega) (by omega)
/-- instructions made a code: it is well -/
theorem lowL_well (pc : Int) {l : List Ix} (R : RegOk l) : Well l.length (lowL pc l) := by
  have E := leaveL_ok pc l R.l0
  have hl := insXs_len pc l 0
  have h0 := R.l0; have h1 := R.l1
  have hi : ∀ i ∈ l, InsOk i := fun i hi => by
    obtain ⟨j, hj⟩ := List.getElem?_of_mem hi
    exact (insB_ok (R.ins j i hj)).1
  refine ⟨by omega, by omega, ?_, ?_, ?_, ?_⟩
  · unfold lowL; rw [List.length_append]; have := E.len; omega
  · unfold lowL; rw [strs_app, insXs_strs, E.st]; have := R.st; omega
  · obtain ⟨o, ho, hb⟩ := E.last
    refine ⟨o, ?_, hb⟩
    unfold lowL
    rw [List.getLast?_append, ho]; rfl
  · have hw := insXs_well (many := l.length) pc l 0 (leaveL pc l) (by omega) (by omega) hi (by have := E.well; rwa [show (0 : Int) + l.length - 1 = l.length - 1 by omega])
    have hc : wellL l.length (0 - 1) (lowL pc l) := hw
    -- no op is of an instruction below 0
    revert hc
    unfold lowL
    cases hc0 : insXs pc l 0 ++ leaveL pc l with
    | nil => intro _; trivial
    | cons o r =>
      intro hc
      refine ⟨hc.1, ?_, hc.2.2.1, hc.2.2.2⟩
      have hb := (opE_zero.1 hc.1).2.1
      unfold bndB at hb
      simp only [Bool.and_eq_true, decide_eq_true_eq] at hb
      exact hb.1.2
/-- its ops' numbers are of their types -/
theorem immX_bd {k : Nat} {m : Int} (m0 : 0 ≤ m) (m1 : m < 4294967296) : 0 ≤ immI k m ∧ immI k m < 4294967296 := by
  unfold immI; split
  · exact ⟨m0, m1⟩
  · exact wd_bd m0 m1 true
end Go.Proofs.YtflagpkmebdckaaGreatDoor.Low
/-
  A region made a code.
-/
namespace Go.Proofs.YtflagpkmebdckaaGreatDoor.Low
open Go.RowKit Go.Maps
open Num
set_option linter.unusedVariables false
theorem insXs_snoc {pc : Int} {l : List Ix} {j : Nat} {x : Ix} (h : l[j]? = some x) : insXs pc (l.take (j + 1)) 0 = insXs pc (l.take j) 0 ++ insX pc x j := by
  have hj := (List.getElem?_eq_some_iff.1 h).1
  rw [List.take_add_one, h, insXs_app]
  have e : ((l.take j).length : Int) = j := by rw [List.length_take]; omega
  rw [e]
  simp [insXs]
theorem LAt.at {w0 w : World} {lb : Nat} {pc many a : Int} {l : List Opx} {v : Value} (F : LAt w0 w lb pc many a l v) (x : Int) : LAt w0 (w.setCell ⟨lb, 3, none⟩ (.int .i64 x)) lb pc many x l v := by
  have oth : ∀ (j : Nat) (u : Value), j ≠ 3 → w.cell? ⟨lb, j, none⟩ = some u → (w.setCell ⟨lb, 3, none⟩ (.int .i64 x)).cell? ⟨lb, j, none⟩ = some u := fun j u hj e => by
    rw [World.cell?_setCell_other _ _ _ _ (by intro e; injection e with e1 e2; exact hj e2.symm)]; exact e
  exact ⟨oth 0 _ (by omega) F.c0, oth 1 _ (by omega) F.c1, oth 2 _ (by omega) F.c2, World.cell?_setCell_same _ _ _ F.c3, fun j => by rw [World.frozen?_setCell]; exact F.fz j,
    owns_blocks F.row fun k e => Below.heap_setCell w ⟨lb, 3, none⟩ _ k (F.vb k e), F.be.setCell F.lf _, F.lf, F.vb⟩
theorem LAt.opsIn {w0 w : World} {lb : Nat} {pc many a : Int} {l : List Opx} {v : Value} (F : LAt w0 w lb pc many a l v) (ok : ∀ o ∈ l, o.ok) : OpsIn w v l := by
  rcases F.row.2 with ⟨rfl, hl⟩ | ⟨g, cap, cur, rfl, hb, hg, hc, hm, hs, ht⟩
  · exact ⟨⟨none, 0, by rw [hl], by omega, fun h => by omega⟩, ok⟩
  · refine ⟨⟨some ⟨g, 0, none⟩, cap, rfl, hc, fun _ => ⟨g, 0, rfl, fun i o hi j u hj => ?_⟩⟩, ok⟩
    have hj6 : j < 6 := by
      rcases Nat.lt_or_ge j 6 with h | h
      · exact h
      · rw [List.getElem?_eq_none (by simpa [opC] using h)] at hj; cases hj
    have := F.row.cells (g := g) rfl (i * 6 + j) u (by rw [opL_get l i o j hi hj6]; exact hj)
    rw [add_lit] at this
    rwa [show 0 + i * 6 + j = i * 6 + j by omega]
/-- an op's numbers are of their types -/
theorem lowL_ok {pc : Int} (p0 : 0 ≤ pc) (p1 : pc < 4294967296) {l : List Ix} (R : RegOk l) (bd : ∀ i ∈ l, i.bd) : ∀ o ∈ lowL pc l, o.ok := by
  have W := lowL_well pc R
  have hops := W.ops
  have hm := R.l1
  -- the numbers but Imm by what is well; Imm by how it was made
  have himm : ∀ o ∈ lowL pc l, 0 ≤ o.i ∧ o.i < 4294967296 := by
    have z : ∀ x : Int, 0 ≤ lo x ∧ lo x < 4294967296 := fun x => lo_bd x
    have wr : ∀ {o p : Opx}, o ∈ wrO p → (0 ≤ p.i ∧ p.i < 4294967296) → 0 ≤ o.i ∧ o.i < 4294967296 := fun {o p} ho hp => by
      unfold wrO at ho; split at ho
      · cases ho
      · simp only [List.mem_singleton] at ho; subst ho; exact hp
    have z0 : (0 : Int) ≤ 0 ∧ (0 : Int) < 4294967296 := by omega
    have one : ∀ (i : Ix) (n : Int), i.bd → ∀ o ∈ insX pc i n, 0 ≤ o.i ∧ o.i < 4294967296 := by
      intro i n b o ho
      have hI := immX_bd (k := i.n) b.m0 b.m1
      have hres : o ∈ resL i n → 0 ≤ o.i ∧ o.i < 4294967296 := by
        intro ho
        unfold resL at ho
        split at ho
        · cases ho
        simp only [List.mem_append] at ho
        rcases ho with (ho | ho) | ho
        · split at ho
          · simp only [List.mem_singleton] at ho; subst ho; exact hI
          · cases ho
        · split at ho
          · cases ho
          · simp only [List.mem_singleton] at ho; subst ho; exact z0
        · exact wr ho z0
      have hhl : ∀ {a c : Nat}, o ∈ hiLoL a c i n → 0 ≤ o.i ∧ o.i < 4294967296 := fun h => by
        unfold hiLoL at h; simp only [List.mem_cons, List.not_mem_nil, or_false] at h; rcases h with rfl | rfl <;> exact z0
      unfold insX at ho
      split at ho
      · unfold brL at ho
        simp only [List.mem_append] at ho
        rcases ho with ho | ho
        · split at ho
          · simp only [List.mem_singleton] at ho; subst ho; exact z0
          split at ho
          · simp only [List.mem_singleton] at ho; subst ho; exact z0
          split at ho
          · simp only [List.mem_singleton] at ho; subst ho; exact z0
          · cases ho
        · split at ho
          · simp only [List.mem_singleton] at ho; subst ho; exact z _
          split at ho
          · exact wr ho (z _)
          · cases ho
      split at ho
      · unfold ldL at ho; simp only [List.mem_singleton] at ho; subst ho; exact hI
      split at ho
      · unfold stL at ho; simp only [List.mem_singleton] at ho; subst ho; exact hI
      unfold sumL at ho
      split at ho
      · exact hhl ho
      split at ho
      · exact hhl ho
      split at ho
      · exact hhl ho
      split at ho
      · exact hhl ho
      split at ho
      · exact wr ho z0
      split at ho
      · exact wr ho z0
      split at ho
      · simp only [List.mem_singleton] at ho; subst ho; exact z0
      split at ho
      · simp only [List.mem_singleton] at ho; subst ho; exact z0
      split at ho
      · exact wr ho (z _)
      · exact hres ho
    have all : ∀ (l : List Ix) (n : Int), (∀ i ∈ l, i.bd) → ∀ o ∈ insXs pc l n, 0 ≤ o.i ∧ o.i < 4294967296 := by
      intro l
      induction l with
      | nil => intro n _ o ho; cases ho
      | cons i l ih =>
        intro n hb o ho
        have ho' : o ∈ insX pc i n ++ insXs pc l (n + 1) := ho
        rw [List.mem_append] at ho'
        rcases ho' with h | h
        · exact one i n (hb i (by simp)) o h
        · exact ih (n + 1) (fun q hq => hb q (by simp [hq])) o h
    intro o ho
    unfold lowL at ho
    rw [List.mem_append] at ho
    rcases ho with ho | ho
    · exact all l 0 bd o ho
    · have zt : ∀ (i : Ix) (a : Int), i.bd → 0 ≤ tgI i a ∧ tgI i a < 4294967296 := by
        intro i a b
        unfold tgI
        split
        · rw [u32_and _ _ (lo_bd _).1 (lo_bd _).2 (by omega) (by omega)]
          have ha := Nat.and_lt_two_pow (n := 32) (lo (a + 4)).toNat (show (4026531840 : Int).toNat < 2 ^ 32 by decide)
          rw [u32_or _ _ (by omega) (by omega) (lo_bd _).1 (lo_bd _).2]
          have hb := lo_bd (4 * i.m)
          have h := Nat.or_lt_two_pow (n := 32) (show (((lo (a + 4)).toNat &&& (4026531840 : Int).toNat : Nat) : Int).toNat < 2 ^ 32 by omega) (show (lo (4 * i.m)).toNat < 2 ^ 32 by omega)
          omega
        · exact lo_bd _
      unfold leaveL at ho
      split at ho
      · rename_i i hi
        have hbi : i.bd := by
          unfold lastBr at hi
          split at hi
          · split at hi
            · rename_i j hj
              split at hi
              · cases hi; exact bd _ (List.mem_of_getElem? hj)
              · cases hi
            · cases hi
          · cases hi
        unfold leaveB at ho
        split at ho
        · simp only [List.mem_cons, List.not_mem_nil, or_false] at ho; rcases ho with rfl | rfl
          · exact zt _ _ hbi
          · exact lo_bd _
        split at ho
        · simp only [List.mem_cons, List.not_mem_nil, or_false] at ho; rcases ho with rfl | rfl
          · exact lo_bd _
          · exact zt _ _ hbi
        split at ho
        · simp only [List.mem_singleton] at ho; subst ho; exact z0
        · simp only [List.mem_singleton] at ho; subst ho; exact zt _ _ hbi
      · simp only [List.mem_singleton] at ho; subst ho; exact lo_bd _
  have hw : ∀ (q : List Opx) (ah : Int), wellL l.length ah q → ∀ o ∈ q, opE o l.length = 0 := by
    intro q
    induction q with
    | nil => intro _ _ o ho; cases ho
    | cons p q ih =>
      intro ah h o ho
      simp only [List.mem_cons] at ho
      rcases ho with rfl | ho
      · exact h.1
      · exact ih _ h.2.2.2 o ho
  intro o ho
  have hE := hw _ 0 hops o ho
  obtain ⟨hk, hb, hs⟩ := opE_zero.1 hE
  obtain ⟨hi0, hi1⟩ := himm o ho
  unfold bndB at hb
  simp only [Bool.and_eq_true, decide_eq_true_eq] at hb
  obtain ⟨⟨⟨⟨hd, ha⟩, hbb⟩, ht0⟩, ht1⟩ := hb
  unfold shpB at hs
  simp only [Bool.and_eq_true, Bool.or_eq_true, decide_eq_true_eq] at hs
  obtain ⟨⟨⟨sd, sa⟩, sb⟩, _⟩ := hs
  have num : ∀ (r : Nat) (n : Int), r ≤ 4 → alw r n = true → (r ≠ 0 ∨ n = 0) → -64 ≤ n ∧ n ≤ 64 := by
    intro r n hr h1 h2
    unfold alw at h1
    split at h1
    · simp at h1; omega
    split at h1
    · simp at h1; omega
    split at h1
    · simp at h1; omega
    split at h1
    · simp at h1; omega
    · rcases h2 with h2 | h2 <;> omega
  have rl := role_le o.k
  have g1 := num _ _ rl.1 hd sd
  have g2 := num _ _ rl.2.1 ha sa
  have g3 := num _ _ rl.2.2 hbb sb
  exact ⟨by omega, by omega, by omega, by omega, by omega, by omega, hi0, hi1, by omega, by omega⟩
end Go.Proofs.YtflagpkmebdckaaGreatDoor.Low
/-
  Lower: what it answers.
-/
namespace Go.Proofs.YtflagpkmebdckaaGreatDoor.Low
open Go.RowKit Go.Maps
open Num
set_option linter.unusedVariables false
set_option maxRecDepth 100000 in
set_option maxHeartbeats 4000000 in
theorem lower_bad {pe : Nat → Addr} {w : World} (V : Lv pe w) {v : Value} {l : List Ix} (A : InsIn w v l) (hl : (l.length : Int) ≤ 9223372036854775807) (pc : Int) (q : Option Addr) (l2 c2 : Nat) (hE : regE l ≠ 0) :
    Calls Tryz.prog 18 #[.agg #[.int .u32 pc, v, .slice q l2 c2]] w fun e w' => e = .returned (.tuple #[.agg #[.int .u32 0, .int .i64 0, .slice none 0 0], erV pe (regE l)]) ∧ Below w.heap.size w w' := by
  have hB0 : Below w.heap.size w ((w.alloc (.cells #[.int .u32 pc, v, .slice q l2 c2] 59)).alloc (.cells #[.int .u32 0, .int .i64 0, .slice none 0 0] 54)) := ((Below.refl _ _).alloc (Nat.le_refl _) _).alloc (by simp) _
  have hck := checkRegion_any (V.stays hB0 (Nat.le_refl _)) (A.stays hB0 (Nat.le_refl _)) hl pc q l2 c2
  have he : erV pe (regE l) = .iface 332 (.pointer (some (pe (regE l)))) := by unfold erV; rw [if_neg (by omega)]; rfl
  rw [he] at hck ⊢
  obtain ⟨ao, cap, rfl, _⟩ := A.sh
  have hz0 : ((w.alloc (.cells #[.int .u32 pc, .slice ao l.length cap, .slice q l2 c2] 59)).alloc (.cells #[.int .u32 0, .int .i64 0, .slice none 0 0] 54)).cell? ⟨w.heap.size + 1, 0, none⟩ = some (.int .u32 0) := by simp
  have hz1 : ((w.alloc (.cells #[.int .u32 pc, .slice ao l.length cap, .slice q l2 c2] 59)).alloc (.cells #[.int .u32 0, .int .i64 0, .slice none 0 0] 54)).cell? ⟨w.heap.size + 1, 1, none⟩ = some (.int .i64 0) := by simp
  have hz2 : ((w.alloc (.cells #[.int .u32 pc, .slice ao l.length cap, .slice q l2 c2] 59)).alloc (.cells #[.int .u32 0, .int .i64 0, .slice none 0 0] 54)).cell? ⟨w.heap.size + 1, 2, none⟩ = some (.slice none 0 0) := by simp
  have hzf : ∀ j, ((w.alloc (.cells #[.int .u32 pc, .slice ao l.length cap, .slice q l2 c2] 59)).alloc (.cells #[.int .u32 0, .int .i64 0, .slice none 0 0] 54)).frozen? ⟨w.heap.size + 1, j, none⟩ = false := fun j => by simp
  clear V A hE he
  generalize regE l = E at *
  go_enter Tryz.func18, Tryz.ntmps18
  go_wp2_with fail
  generalize (w.alloc (.cells #[.int .u32 pc, .slice ao l.length cap, .slice q l2 c2] 59)).alloc (.cells #[.int .u32 0, .int .i64 0, .slice none 0 0] 54) = V at *
  refine hck.mono ?_
  rintro e w1 ⟨rfl, hb1⟩
  have HB : Hid (Below w.heap.size w w1) := hB0.trans (hb1.mono (by have := hB0.size; omega))
  have hlt : w.heap.size + 1 < V.heap.size := World.block_lt_of_cell? _ _ hz0
  have z0 := K.cell_stays hb1 (Nat.le_refl _) hz0
  have z1 := K.cell_stays hb1 (Nat.le_refl _) hz1
  have z2 := K.cell_stays hb1 (Nat.le_refl _) hz2
  have fz : ∀ j, w1.frozen? ⟨w.heap.size + 1, j, none⟩ = false := fun j => (hb1.frozen (p := ⟨w.heap.size + 1, j, none⟩) hlt).trans (hzf j)
  have hz : w.heap.size + 1 < w1.heap.size := World.block_lt_of_cell? _ _ z0
  clear hck hb1 hz0 hz1 hz2 hzf hB0
  go_wp2
  obtain ⟨y0, y1, y2⟩ := put3 (v0 := .int .u32 0) (v1 := .int .i64 0) (v2 := .slice none 0 0) z0 z1 z2
  refine bodyPost_ret (results_cell1 (A := ⟨w.heap.size + 1, 0, none⟩) rfl _ _ _ rfl (code_load y0 y1 y2)) rfl ?_
  exact ⟨rfl, ((HB.out.setCell (p := ⟨w.heap.size + 1, 0, none⟩) (by show _ ≤ w.heap.size + 1; omega) _).setCell (p := ⟨w.heap.size + 1, 1, none⟩) (by show _ ≤ w.heap.size + 1; omega) _).setCell (p := ⟨w.heap.size + 1, 2, none⟩) (by show _ ≤ w.heap.size + 1; omega) _⟩
/-- Lower on its way: the code, the region in its box, what is handed back -/
structure LL (w W : World) (lb rb : Nat) (pc n a : Int) (l : List Opx) (v : Value) (u0 u1 u2 : Value) : Prop where
  f : LAt w W lb pc n a l v
  c0 : W.cell? ⟨rb, 0, none⟩ = some u0
  c1 : W.cell? ⟨rb, 1, none⟩ = some u1
  c2 : W.cell? ⟨rb, 2, none⟩ = some u2
  z0 : W.cell? ⟨rb + 1, 0, none⟩ = some (.int .u32 0)
  z1 : W.cell? ⟨rb + 1, 1, none⟩ = some (.int .i64 0)
  z2 : W.cell? ⟨rb + 1, 2, none⟩ = some (.slice none 0 0)
  fz : ∀ j, W.frozen? ⟨rb + 1, j, none⟩ = false
  n1 : rb ≠ lb
  n2 : rb + 1 ≠ lb
  n3 : v.ownBlock ≠ some rb
  n4 : v.ownBlock ≠ some (rb + 1)
section
variable {w W : World} {lb rb : Nat} {pc n a : Int} {l l' : List Opx} {v : Value} {u0 u1 u2 : Value}
theorem LL.lt (B : LL w W lb rb pc n a l v u0 u1 u2) : rb + 1 < W.heap.size := World.block_lt_of_cell? _ _ B.z0
theorem LL.pure (B : LL w W lb rb pc n a l v u0 u1 u2) {W' : World} (h : Below W.heap.size W W') : LL w W' lb rb pc n a l v u0 u1 u2 :=
  ⟨B.f.stays h, K.cell_stays h (Nat.le_refl _) B.c0, K.cell_stays h (Nat.le_refl _) B.c1, K.cell_stays h (Nat.le_refl _) B.c2, K.cell_stays h (Nat.le_refl _) B.z0, K.cell_stays h (Nat.le_refl _) B.z1, K.cell_stays h (Nat.le_refl _) B.z2, fun j => (h.frozen (p := ⟨rb + 1, j, none⟩) B.lt).trans (B.fz j), B.n1, B.n2, B.n3, B.n4⟩
theorem LL.add (B : LL w W lb rb pc n a l v u0 u1 u2) {W' : World} {v' : Value} (F : LAt w W' lb pc n a l' v') (L : LKept W W' lb v v') : LL w W' lb rb pc n a l' v' u0 u1 u2 :=
  ⟨F, L.cell B.c0 B.n1 B.n3, L.cell B.c1 B.n1 B.n3, L.cell B.c2 B.n1 B.n3, L.cell B.z0 B.n2 B.n4, L.cell B.z1 B.n2 B.n4, L.cell B.z2 B.n2 B.n4,
    fun j => (World.frozen?_of_block (a := ⟨rb + 1, j, none⟩) (L.keep (rb + 1) (World.block_lt_of_cell? _ _ B.z0) B.n2 B.n4).1).trans (B.fz j), B.n1, B.n2, (L.keep rb (World.block_lt_of_cell? _ _ B.c0) B.n1 B.n3).2, (L.keep (rb + 1) (World.block_lt_of_cell? _ _ B.z0) B.n2 B.n4).2⟩
theorem LL.at (B : LL w W lb rb pc n a l v u0 u1 u2) (x : Int) : LL w (W.setCell ⟨lb, 3, none⟩ (.int .i64 x)) lb rb pc n x l v u0 u1 u2 := by
  have o : ∀ (b j : Nat) (u : Value), b ≠ lb → W.cell? ⟨b, j, none⟩ = some u → (W.setCell ⟨lb, 3, none⟩ (.int .i64 x)).cell? ⟨b, j, none⟩ = some u := fun b j u hb e => by
    rw [World.cell?_of_block (a := ⟨b, j, none⟩) (Below.heap_setCell W ⟨lb, 3, none⟩ _ b hb)]; exact e
  exact ⟨B.f.at x, o _ _ _ B.n1 B.c0, o _ _ _ B.n1 B.c1, o _ _ _ B.n1 B.c2, o _ _ _ B.n2 B.z0, o _ _ _ B.n2 B.z1, o _ _ _ B.n2 B.z2, fun j => by rw [World.frozen?_setCell]; exact B.fz j, B.n1, B.n2, B.n3, B.n4⟩
end
theorem _root_.Go.Proofs.YtflagpkmebdckaaGreatDoor.OpsIn.block {W W' : World} {v : Value} {l : List Opx} (A : OpsIn W v l) (h : ∀ k, v.ownBlock = some k → W'.heap[k]? = W.heap[k]?) : OpsIn W' v l := by
  obtain ⟨ao, cap, rfl, hc, hh⟩ := A.sh
  refine ⟨⟨ao, cap, rfl, hc, fun hp => ?_⟩, A.ok⟩
  obtain ⟨b, off, rfl, hcell⟩ := hh hp
  exact ⟨b, off, rfl, fun i o hi j u hj => (World.cell?_of_block (a := ⟨b, off + i * 6 + j, none⟩) (h b rfl)).trans (hcell i o hi j u hj)⟩
/-- what Lower hands back of a region -/
def LowPost (w : World) (pc : Int) (li : List Ix) (e : Ending) (w' : World) : Prop :=
  ∃ v, e = .returned (.tuple #[.agg #[.int .u32 pc, .int .i64 li.length, v], .nilIface]) ∧ OpsIn w' v (lowL pc li) ∧ Below w.heap.size w w'
set_option maxRecDepth 100000 in
set_option maxHeartbeats 8000000 in
theorem lower_ok {pe : Nat → Addr} {w : World} (V : Lv pe w) {v : Value} {l : List Ix} (A : InsIn w v l) (pc : Int) (p0 : 0 ≤ pc) (p1 : pc < 4294967296) (q : Option Addr) (l2 c2 : Nat) (hE : regE l = 0) :
    Calls Tryz.prog 18 #[.agg #[.int .u32 pc, v, .slice q l2 c2]] w (LowPost w pc l) := by
  have R := regE_zero hE
  have hB0 : Below w.heap.size w ((w.alloc (.cells #[.int .u32 pc, v, .slice q l2 c2] 59)).alloc (.cells #[.int .u32 0, .int .i64 0, .slice none 0 0] 54)) := ((Below.refl _ _).alloc (Nat.le_refl _) _).alloc (by simp) _
  have hck := checkRegion_any (V.stays hB0 (Nat.le_refl _)) (A.stays hB0 (Nat.le_refl _)) (by have := R.l1; omega) pc q l2 c2
  have he : erV pe (regE l) = .nilIface := by rw [hE]; rfl
  rw [he] at hck
  have HA : Hid _ := A
  have HR : Hid _ := R
  have l0 := R.l0
  have l1 := R.l1
  obtain ⟨ao, cap, rfl, hcap, hh⟩ := A.sh
  obtain ⟨b, off, rfl, hcell⟩ := hh (by omega)
  have HC : Hid (∀ (i : Nat) (o : Ix), l[i]? = some o → ∀ W, Below w.heap.size w W → (W.cell? ⟨b, off + i * 5, none⟩ = some (.int .i64 o.k) ∧ W.cell? ⟨b, off + i * 5 + 1, none⟩ = some (.int .i64 o.s) ∧ W.cell? ⟨b, off + i * 5 + 2, none⟩ = some (.int .i64 o.t) ∧ W.cell? ⟨b, off + i * 5 + 3, none⟩ = some (.int .i64 o.d) ∧ W.cell? ⟨b, off + i * 5 + 4, none⟩ = some (.int .u32 o.m))) := fun i o hi W hB =>
    ix_cells (fun k u hk => K.cell_stays hB (Nat.le_refl _) (hcell i o hi k u hk))
  clear hcell hh
  have hw : ((w.alloc (.cells #[.int .u32 pc, .slice (some ⟨b, off, none⟩) l.length cap, .slice q l2 c2] 59)).alloc (.cells #[.int .u32 0, .int .i64 0, .slice none 0 0] 54)).heap.size = w.heap.size + 2 := by simp
  have hz0 : ((w.alloc (.cells #[.int .u32 pc, .slice (some ⟨b, off, none⟩) l.length cap, .slice q l2 c2] 59)).alloc (.cells #[.int .u32 0, .int .i64 0, .slice none 0 0] 54)).cell? ⟨w.heap.size + 1, 0, none⟩ = some (.int .u32 0) := by simp
  have hz1 : ((w.alloc (.cells #[.int .u32 pc, .slice (some ⟨b, off, none⟩) l.length cap, .slice q l2 c2] 59)).alloc (.cells #[.int .u32 0, .int .i64 0, .slice none 0 0] 54)).cell? ⟨w.heap.size + 1, 1, none⟩ = some (.int .i64 0) := by simp
  have hz2 : ((w.alloc (.cells #[.int .u32 pc, .slice (some ⟨b, off, none⟩) l.length cap, .slice q l2 c2] 59)).alloc (.cells #[.int .u32 0, .int .i64 0, .slice none 0 0] 54)).cell? ⟨w.heap.size + 1, 2, none⟩ = some (.slice none 0 0) := by simp
  have hzf : ∀ j, ((w.alloc (.cells #[.int .u32 pc, .slice (some ⟨b, off, none⟩) l.length cap, .slice q l2 c2] 59)).alloc (.cells #[.int .u32 0, .int .i64 0, .slice none 0 0] 54)).frozen? ⟨w.heap.size + 1, j, none⟩ = false := fun j => by simp
  have hr0 : ((w.alloc (.cells #[.int .u32 pc, .slice (some ⟨b, off, none⟩) l.length cap, .slice q l2 c2] 59)).alloc (.cells #[.int .u32 0, .int .i64 0, .slice none 0 0] 54)).cell? ⟨w.heap.size, 0, none⟩ = some (.int .u32 pc) := by simp
  have hr1 : ((w.alloc (.cells #[.int .u32 pc, .slice (some ⟨b, off, none⟩) l.length cap, .slice q l2 c2] 59)).alloc (.cells #[.int .u32 0, .int .i64 0, .slice none 0 0] 54)).cell? ⟨w.heap.size, 1, none⟩ = some (.slice (some ⟨b, off, none⟩) l.length cap) := by simp
  have hr2 : ((w.alloc (.cells #[.int .u32 pc, .slice (some ⟨b, off, none⟩) l.length cap, .slice q l2 c2] 59)).alloc (.cells #[.int .u32 0, .int .i64 0, .slice none 0 0] 54)).cell? ⟨w.heap.size, 2, none⟩ = some (.slice q l2 c2) := by simp
  clear A hE he V R
  go_enter Tryz.func18, Tryz.ntmps18
  go_wp2_with fail
  generalize (w.alloc (.cells #[.int .u32 pc, .slice (some ⟨b, off, none⟩) l.length cap, .slice q l2 c2] 59)).alloc (.cells #[.int .u32 0, .int .i64 0, .slice none 0 0] 54) = V at *
  refine hck.mono ?_
  rintro e w1 ⟨rfl, hb1⟩
  have hB1 : Below w.heap.size w w1 := hB0.trans (hb1.mono (by have := hB0.size; omega))
  have hlt : w.heap.size + 1 < V.heap.size := World.block_lt_of_cell? _ _ hz0
  have z0 := K.cell_stays hb1 (Nat.le_refl _) hz0
  have z1 := K.cell_stays hb1 (Nat.le_refl _) hz1
  have z2 := K.cell_stays hb1 (Nat.le_refl _) hz2
  have r0 := K.cell_stays hb1 (Nat.le_refl _) hr0
  have r1 := K.cell_stays hb1 (Nat.le_refl _) hr1
  have r2 := K.cell_stays hb1 (Nat.le_refl _) hr2
  have fz : ∀ j, w1.frozen? ⟨w.heap.size + 1, j, none⟩ = false := fun j => (hb1.frozen (p := ⟨w.heap.size + 1, j, none⟩) hlt).trans (hzf j)
  have hz : w.heap.size + 1 < w1.heap.size := World.block_lt_of_cell? _ _ z0
  have hA1 : Below w1.heap.size w1 (w1.alloc (.cells #[.int .u32 pc, .int .i64 l.length, .slice none 0 0, .int .i64 0] 127)) := (Below.refl _ _).alloc (Nat.le_refl _) _
  have FF : LAt w (w1.alloc (.cells #[.int .u32 pc, .int .i64 l.length, .slice none 0 0, .int .i64 0] 127)) w1.heap.size pc l.length 0 [] (.slice none 0 0) :=
    ⟨by simp, by simp, by simp, by simp, fun j => by simp, ⟨rfl, Or.inl ⟨rfl, rfl⟩⟩, hB1.alloc (by omega) _, by omega, (fun k h => by cases h)⟩
  have B : Hid (LL w (w1.alloc (.cells #[.int .u32 pc, .int .i64 l.length, .slice none 0 0, .int .i64 0] 127)) w1.heap.size w.heap.size pc l.length 0 [] (.slice none 0 0) (.int .u32 pc) (.slice (some ⟨b, off, none⟩) l.length cap) (.slice q l2 c2)) :=
    ⟨FF, K.cell_stays hA1 (Nat.le_refl _) r0, K.cell_stays hA1 (Nat.le_refl _) r1, K.cell_stays hA1 (Nat.le_refl _) r2, K.cell_stays hA1 (Nat.le_refl _) z0, K.cell_stays hA1 (Nat.le_refl _) z1, K.cell_stays hA1 (Nat.le_refl _) z2, fun j => (hA1.frozen (p := ⟨w.heap.size + 1, j, none⟩) hz).trans (fz j), by omega, by omega, (fun h => by cases h), (fun h => by cases h)⟩
  clear hck hb1 hz0 hz1 hz2 hzf hB0 hr0 hr1 hr2 FF hA1 hB1 hlt hw
  go_upto_region 5 with fail
  generalize w1.alloc (.cells #[.int .u32 pc, .int .i64 l.length, .slice none 0 0, .int .i64 0] 127) = W0 at *
  generalize w1.heap.size = lb at *
  clear z0 z1 z2 r0 r1 r2 fz
  have c1 := B.out.c1
  have hl24 : (l.length : Int) ≤ 24 := by omega
  go_wp2
  clear c1
  go_loopw [25] (fun i wr => ∃ j : Nat, j ≤ l.length ∧ i = .int .i64 j ∧ ∃ a v, LL w wr lb w.heap.size pc l.length a (insXs pc (l.take j) 0) v (.int .u32 pc) (.slice (some ⟨b, off, none⟩) l.length cap) (.slice q l2 c2) ∧ (0 < j → a = (j : Int) - 1)) (fun i _ => l.length - (intOf i).toNat)
  case atStart => exact ⟨0, Nat.zero_le _, rfl, 0, _, B.out, fun h => absurd h (by omega)⟩
  case round =>
    obtain ⟨j, hj, rfl, a, v, B1, ha⟩ := hrel
    have HB : Hid _ := B1
    clear B1 B
    by_cases hlt : j < l.length
    · have ho : l[j]? = some l[j] := List.getElem?_eq_getElem hlt
      obtain ⟨x0, x1, x2, x3, x4⟩ := HC.out j _ ho _ HB.out.f.be
      have hbx := HA.out.bd l[j] (List.getElem_mem hlt)
      have hI := (insB_ok (HR.out.ins j _ ho)).1
      have HS : Hid _ := insXs_snoc (pc := pc) ho
      have hlen : Hid ((insXs pc (l.take j) 0).length ≤ 900) := by
        show _ ≤ _
        have := insXs_len pc (l.take j) 0
        have h2 : (l.take j).length ≤ j := List.length_take_le _ _
        omega
      have hlt' : (j : Int) < l.length := by omega
      have m0 := hbx.m0
      have m1 := hbx.m1
      have hk2 := hI.k2
      have hkk := hI.kk
      have hkd := hI.kd
      have hnt := hI.nt
      clear ho hbx hI
      generalize l[j] = x at *
      obtain ⟨k, s, t, d, m⟩ := x
      obtain ⟨n, rfl⟩ : ∃ n : Nat, k = n := ⟨k.toNat, hkk⟩
      have hn54 : n < 54 := by simpa [Ix.n] using hk2
      have hn3 : Tab.kdL.getD n 0 ≠ 3 := by
        have e : Ix.kd ⟨n, s, t, d, m⟩ = Tab.kdL.getD n 0 := by rw [hkd]; simp [Ix.n]
        rw [← e]; exact hnt
      simp only at x0 x1 x2 x3 x4 m0 m1
      clear hkk hkd hnt hk2
      have k3 := HB.out.f.c3
      have f3 := HB.out.f.fz 3
      have hlb := HB.out.f.lt
      go_upto_region 9 with fail
      have B2 : Hid (LL w ((wr.setCell ⟨lb, 3, none⟩ (.int .i64 j)).alloc (.cells #[.int .i64 n, .int .i64 s, .int .i64 t, .int .i64 d, .int .u32 m] 113)) lb w.heap.size pc l.length j (insXs pc (l.take j) 0) v (.int .u32 pc) (.slice (some ⟨b, off, none⟩) l.length cap) (.slice q l2 c2)) := (HB.out.at j).pure ((Below.refl _ _).alloc (Nat.le_refl _) _)
      have i0 : ((wr.setCell ⟨lb, 3, none⟩ (.int .i64 j)).alloc (.cells #[.int .i64 n, .int .i64 s, .int .i64 t, .int .i64 d, .int .u32 m] 113)).cell? ⟨wr.heap.size, 0, none⟩ = some (.int .i64 n) := by
        rw [show wr.heap.size = (wr.setCell ⟨lb, 3, none⟩ (.int .i64 j)).heap.size from by simp]
        generalize wr.setCell ⟨lb, 3, none⟩ (.int .i64 j) = Y
        simp
      have i1 : ((wr.setCell ⟨lb, 3, none⟩ (.int .i64 j)).alloc (.cells #[.int .i64 n, .int .i64 s, .int .i64 t, .int .i64 d, .int .u32 m] 113)).cell? ⟨wr.heap.size, 1, none⟩ = some (.int .i64 s) := by
        rw [show wr.heap.size = (wr.setCell ⟨lb, 3, none⟩ (.int .i64 j)).heap.size from by simp]
        generalize wr.setCell ⟨lb, 3, none⟩ (.int .i64 j) = Y
        simp
      have i2 : ((wr.setCell ⟨lb, 3, none⟩ (.int .i64 j)).alloc (.cells #[.int .i64 n, .int .i64 s, .int .i64 t, .int .i64 d, .int .u32 m] 113)).cell? ⟨wr.heap.size, 2, none⟩ = some (.int .i64 t) := by
        rw [show wr.heap.size = (wr.setCell ⟨lb, 3, none⟩ (.int .i64 j)).heap.size from by simp]
        generalize wr.setCell ⟨lb, 3, none⟩ (.int .i64 j) = Y
        simp
      have i3 : ((wr.setCell ⟨lb, 3, none⟩ (.int .i64 j)).alloc (.cells #[.int .i64 n, .int .i64 s, .int .i64 t, .int .i64 d, .int .u32 m] 113)).cell? ⟨wr.heap.size, 3, none⟩ = some (.int .i64 d) := by
        rw [show wr.heap.size = (wr.setCell ⟨lb, 3, none⟩ (.int .i64 j)).heap.size from by simp]
        generalize wr.setCell ⟨lb, 3, none⟩ (.int .i64 j) = Y
        simp
      have i4 : ((wr.setCell ⟨lb, 3, none⟩ (.int .i64 j)).alloc (.cells #[.int .i64 n, .int .i64 s, .int .i64 t, .int .i64 d, .int .u32 m] 113)).cell? ⟨wr.heap.size, 4, none⟩ = some (.int .u32 m) := by
        rw [show wr.heap.size = (wr.setCell ⟨lb, 3, none⟩ (.int .i64 j)).heap.size from by simp]
        generalize wr.setCell ⟨lb, 3, none⟩ (.int .i64 j) = Y
        simp
      clear HB k3 f3 hlb x0 x1 x2 x3 x4
      generalize (wr.setCell ⟨lb, 3, none⟩ (.int .i64 j)).alloc (.cells #[.int .i64 n, .int .i64 s, .int .i64 t, .int .i64 d, .int .u32 m] 113) = W2 at *
      generalize wr.heap.size = ib at *
      go_wp2_with fail
      refine (lower_any B2.out.f hlen.out p0 p1 (by omega) (by omega) n hn54 s t d m m0 m1 hn3).mono ?_
      rintro e W3 ⟨rfl, v3, F3, L3⟩
      have B3 : Hid _ := B2.out.add F3 L3
      clear F3 L3 B2 i0 i1 i2 i3 i4
      go_wp2
      go_roundw
      case rel => exact ⟨j + 1, by omega, by go_num, j, v3, by rw [HS.out]; exact B3.out, fun _ => by omega⟩
      case measure => simp [intOf]; omega
    · obtain rfl : j = l.length := by omega
      have ea : a = (l.length : Int) - 1 := ha (by omega)
      have hlen : Hid ((insXs pc (l.take l.length) 0).length ≤ 900) := by
        show _ ≤ _
        have := insXs_len pc (l.take l.length) 0
        have h2 : (l.take l.length).length ≤ l.length := List.length_take_le _ _
        omega
      have c0 := HB.out.c0
      have c1 := HB.out.c1
      have c2' := HB.out.c2
      go_wp2_with fail
      refine (leave_any HB.out.f hlen.out p0 p1 HA.out HR.out ea q l2 c2).mono ?_
      rintro e W3 ⟨rfl, v3, F3, L3⟩
      have B3 : Hid _ := HB.out.add F3 L3
      have eL : insXs pc (l.take l.length) 0 ++ leaveL pc l = lowL pc l := by rw [List.take_length]; rfl
      rw [eL] at B3
      clear F3 L3 HB c0 c1 c2' eL
      have k0 := B3.out.f.c0
      have k1 := B3.out.f.c1
      have k2 := B3.out.f.c2
      have z0 := B3.out.z0
      have z1 := B3.out.z1
      have z2 := B3.out.z2
      have fz := B3.out.fz
      have hzz := B3.out.lt
      have hlb3 := B3.out.f.lt
      have hne := B3.out.n2
      obtain ⟨g3, m3, hv3⟩ : ∃ (p : Option Addr) (cp : Nat), v3 = .slice p (lowL pc l).length cp := by
        rcases B3.out.f.row.2 with ⟨rfl, h⟩ | ⟨g, cap, cur, rfl, _⟩
        · exact ⟨none, 0, by rw [h]⟩
        · exact ⟨_, _, rfl⟩
      subst hv3
      have HL : Hid (0 ≤ (lowL pc l).length) := Nat.zero_le _
      generalize hlw : (lowL pc l).length = nl at k2 ⊢
      go_wp2
      obtain ⟨y0, y1, y2⟩ := put3 (v0 := .int .u32 pc) (v1 := .int .i64 l.length) (v2 := .slice g3 nl m3) z0 z1 z2
      refine bodyPost_ret (results_cell1 (A := ⟨w.heap.size + 1, 0, none⟩) rfl _ _ _ rfl (code_load y0 y1 y2)) rfl ?_
      have hO := B3.out.f.opsIn (lowL_ok p0 p1 HR.out HA.out.bd)
      have hbe := B3.out.f.be
      have n4 := B3.out.n4
      refine ⟨_, rfl, ?_, ((hbe.setCell (p := ⟨w.heap.size + 1, 0, none⟩) (by show _ ≤ w.heap.size + 1; omega) _).setCell (p := ⟨w.heap.size + 1, 1, none⟩) (by show _ ≤ w.heap.size + 1; omega) _).setCell (p := ⟨w.heap.size + 1, 2, none⟩) (by show _ ≤ w.heap.size + 1; omega) _⟩
      subst hlw
      refine hO.block fun k hk => ?_
      have hkn : k ≠ w.heap.size + 1 := fun e => n4 (by rw [← e]; exact hk)
      exact ((Below.heap_setCell _ ⟨w.heap.size + 1, 2, none⟩ _ k hkn).trans (Below.heap_setCell _ ⟨w.heap.size + 1, 1, none⟩ _ k hkn)).trans (Below.heap_setCell _ ⟨w.heap.size + 1, 0, none⟩ _ k hkn)
end Go.Proofs.YtflagpkmebdckaaGreatDoor.Low
/-
  Errors of ir.Eval.
-/
namespace Go.Proofs.YtflagpkmebdckaaGreatDoor
open Go.RowKit Go.Maps
open Num
set_option linter.unusedVariables false
section
variable {w : World}
end
end Go.Proofs.YtflagpkmebdckaaGreatDoor
/-
  ir.Eval as the document has it; EvalOf.
-/
namespace Go.Proofs.YtflagpkmebdckaaGreatDoor
open Go.RowKit Go.Maps
open Num
set_option linter.unusedVariables false
theorem ievalT_any {w : World} {stb sb bp bw bh N : Nat} {m : Nat → Int} {wt ht : Int → Bool} (pe : Nat → Addr) (E : Eg pe w) (R : RamIs w sb bp bw bh N m wt ht) (hN : N ≤ 900000) {S : St} (ok : S.ok) (hS : StRow w stb S) (n1 : sb ≠ stb) (n2 : bp ≠ stb) (n3 : bw ≠ stb) (n4 : bh ≠ stb) {v : Value} {l : List Opx} (A : OpsIn w v l) (pc many : Int) (p0 : 0 ≤ pc) (p1 : pc < 4294967296) (m0 : -9223372036854775808 ≤ many) (m1 : many ≤ 9223372036854775807) (hpf : codeF many l = (0, -1)) (hsl : S.sl = false) (hpc : S.pc = pc) (hnx : S.nx = lo (pc + 4)) (hr0 : S.r 0 = 0) (c0 : 0 ≤ S.ct) (c1 : S.ct ≤ 1152921504606846976) :
    Calls Tryz.prog 31 #[.agg #[.int .u32 pc, .int .i64 many, v], .pointer (some ⟨stb, 0, none⟩), .pointer (some ⟨sb, 0, none⟩)] w fun e w' => e = .returned (.tuple #[.agg #[.bool (ozT (runZ wt (eachL l) (nwX (rgS S) 34) m)), .int .i64 (ozA (runZ wt (eachL l) (nwX (rgS S) 34) m))], .nilIface]) ∧ ∃ G, stA G = stA (ozS S many (runZ wt (eachL l) (nwX (rgS S) 34) m)) ∧ HOut w w' stb sb bp bw bh wt ht G (ozM m (runZ wt (eachL l) (nwX (rgS S) 34) m)) := by
  have hlt := ram_ltG R
  have WL := codeF_well.1 hpf
  have hmem : ∀ r ∈ eachL l, ∀ o ∈ r, o ∈ l := fun r hr o ho => by
    unfold eachL at hr
    obtain ⟨q, hq, rfl⟩ := List.mem_map.1 hr
    rw [List.mem_singleton.1 ho]; exact hq
  have hwell : ∀ r ∈ eachL l, ∀ o ∈ r, o.ok ∧ opE o many = 0 := fun r hr o ho => ⟨A.ok o (hmem r hr o ho), wellL_mem WL.ops o (hmem r hr o ho)⟩
  have hne : eachL l ≠ [] := by unfold eachL; intro h; exact WL.ne (List.map_eq_nil_iff.1 h)
  have hlast : ∀ r, (eachL l).getLast? = some r → r.any outB = true := fun r hr => by
    obtain ⟨o, ho, hb⟩ := WL.last
    unfold eachL at hr
    rw [List.getLast?_map, ho] at hr
    obtain rfl : [o] = r := by simpa using hr
    simp [hb]
  have hnf := runZ_nofell (many := many) wt (eachL l) (nwX (rgS S) 34) m hne hwell hlast (nwX_bd (rgS_bd ok)) R.mb
  have hx0 := fun M => runZ_x0 (wt := wt) (many := many) (eachL l) (nwX (rgS S) 34) m M (fun r hr o ho => (hwell r hr o ho).2)
  refine (ieval_ok pe E R hN ok hS n1 n2 n3 n4 hlt.1 hlt.2.1 hlt.2.2.1 hlt.2.2.2 A pc many p0 p1 m0 m1 hpf hsl hpc hnx c0 c1).mono ?_
  intro e w' h
  rw [begX_nw hr0] at h
  unfold run1 at h
  cases hz : runZ wt (eachL l) (nwX (rgS S) 34) m with
  | trap t =>
    rw [hz] at h
    obtain ⟨rfl, hb⟩ := h
    exact ⟨rfl, S, rfl, HOut.of_below hS R hb⟩
  | fell => exact absurd hz hnf
  | leave M =>
    rw [hz] at h
    obtain ⟨rfl, h1, ⟨N', _, h2⟩, h3, h4, h5, h6, h7⟩ := h
    have hM : M.x 0 = S.r 0 := by rw [hx0 M hz, hr0]; unfold nwX; rw [if_neg (by omega)]
    exact ⟨rfl, leftS S M.x M.lv many, stA_congr (left_same hM), ⟨h1, ⟨N', h2⟩, h3, h4, h5, h6, h7⟩⟩
end Go.Proofs.YtflagpkmebdckaaGreatDoor
/-
  What HostRuns' walk wants.
-/
namespace Go.Proofs.YtflagpkmebdckaaGreatDoor
open Go.RowKit Go.Maps
open Num
set_option linter.unusedVariables false
theorem CBox.blockH {W W' : World} {b : Nat} {pc many : Int} {v : Value} (C : CBox W b pc many v) (h : W'.heap[b]? = W.heap[b]?) : CBox W' b pc many v :=
  ⟨(World.cell?_of_block (a := ⟨b, 0, none⟩) h).trans C.k0, (World.cell?_of_block (a := ⟨b, 1, none⟩) h).trans C.k1, (World.cell?_of_block (a := ⟨b, 2, none⟩) h).trans C.k2⟩
theorem HOut.belowB {w w' wz : World} {b stb sb bp bw bh : Nat} {wt ht : Int → Bool} {F : St} {M : Nat → Int} (R : HOut w w' stb sb bp bw bh wt ht F M) (h : Below b wz w) (hb : b ≤ w.heap.size) (h1 : b ≤ stb) (h2 : b ≤ bp) (h3 : b ≤ bh) : Below b wz w' :=
  ⟨R.os.trans h.os, R.tape.trans h.tape, R.output.trans h.output, Nat.le_trans h.size R.sz, fun k hk => (R.bk k (by omega) (by omega) (by omega) (by omega)).trans (h.block k hk)⟩
end Go.Proofs.YtflagpkmebdckaaGreatDoor
/-
  Instructions in a row of one's own; what two ends that are alike tell.
-/
namespace Go.Proofs.YtflagpkmebdckaaGreatDoor
open Go.RowKit Go.Maps
open Num Low
set_option linter.unusedVariables false
theorem infoIns : (Tryz.prog.info? 113).map (fun i => (i.zero, i.size, i.bytes)) = some (some (.agg #[.int .i64 0, .int .i64 0, .int .i64 0, .int .i64 0, .int .u32 0]), 5, 40) := by kernel_rfl
def ixL (l : List Ix) : List Value := l.flatMap ixC
theorem ixL_len (l : List Ix) : (ixL l).length = l.length * 5 := by
  induction l with
  | nil => rfl
  | cons x l ih => show (ixC x ++ ixL l).length = _; rw [List.length_append, ih]; simp [ixC]; omega
theorem ixL_get : ∀ (p : List Ix) (j : Nat) (q : Ix) (i : Nat), p[j]? = some q → i < 5 → (ixL p)[j * 5 + i]? = (ixC q)[i]?
  | [], j, q, i, h, _ => by simp at h
  | x :: p, 0, q, i, h, hi => by
    simp at h; subst h
    show (ixC x ++ ixL p)[0 * 5 + i]? = _
    rw [List.getElem?_append_left (by simp [ixC]; omega)]; simp
  | x :: p, j + 1, q, i, h, hi => by
    show (ixC x ++ ixL p)[(j + 1) * 5 + i]? = _
    rw [List.getElem?_append_right (by simp [ixC]; omega)]
    have e : (j + 1) * 5 + i - (ixC x).length = j * 5 + i := by simp [ixC]; omega
    rw [e]; exact ixL_get p j q i (by simpa using h) hi
theorem ixL_one (l : List Ix) : ∀ u ∈ ixL l, u.oneCell' = true := by
  intro u hu
  obtain ⟨o, _, h⟩ := List.mem_flatMap.1 hu
  simp [ixC] at h
  rcases h with rfl | rfl | rfl | rfl | rfl <;> rfl
theorem ixL_at {w : World} {b off : Nat} {l : List Ix} (h : ∀ (i : Nat) (o : Ix), l[i]? = some o → ∀ (j : Nat) (u : Value), (ixC o)[j]? = some u → w.cell? ⟨b, off + i * 5 + j, none⟩ = some u) : ∀ j u, (ixL l)[j]? = some u → w.cell? ((⟨b, off, none⟩ : Addr).add j) = some u := by
  intro j u hj
  have hlt : j < l.length * 5 := by have := (List.getElem?_eq_some_iff.1 hj).1; rwa [ixL_len] at this
  have hi : j / 5 < l.length := by omega
  have ho : l[j / 5]? = some l[j / 5] := List.getElem?_eq_getElem hi
  have := ixL_get l (j / 5) _ (j % 5) ho (by omega)
  rw [show j / 5 * 5 + j % 5 = j by omega, hj] at this
  have hc := h _ _ ho _ _ this.symm
  have hadd : (⟨b, off, none⟩ : Addr).add j = ⟨b, off + j, none⟩ := by unfold Addr.add; split <;> simp_all
  rw [hadd, ← hc]; congr 2; omega
theorem ixL_news {w : World} {ad : Addr} {cap : Nat} {l : List Ix} (A : InsIn w (.slice (some ad) l.length cap) l) : ∀ j u, (ixL l)[j]? = some u → w.cell? (ad.add j) = some u := by
  obtain ⟨ao, cp, he, hc, hh⟩ := A.sh
  injection he with e1 e2 e3
  subst e1
  rcases Nat.eq_zero_or_pos l.length with h | h
  · have : l = [] := List.length_eq_zero_iff.1 h
    subst this; intro j u hj; simp [ixL] at hj
  · obtain ⟨b, off, e, hcl⟩ := hh h
    injection e with e; subst e
    exact ixL_at hcl
theorem ins_of_row {w : World} {base : Nat} {v : Value} {l : List Ix} (hr : w.ownsRow base 113 5 v l.length (ixL l)) (bd : ∀ o ∈ l, o.bd) : InsIn w v l := by
  rcases hr.2 with ⟨rfl, h⟩ | ⟨g, cap, cur, rfl, hg, hh, hn, _⟩
  · exact ⟨⟨none, 0, by rw [h], by omega, fun hp => by omega⟩, bd⟩
  · refine ⟨⟨_, cap, rfl, hn, fun hp => ⟨g, 0, rfl, fun i o ho j u hu => ?_⟩⟩, bd⟩
    have hj : j < 5 := by have := (List.getElem?_eq_some_iff.1 hu).1; simpa [ixC] using this
    have := hr.cells (g := g) rfl (i * 5 + j) u (by rw [ixL_get l i o j ho hj]; exact hu)
    rw [add_lit] at this
    rwa [show 0 + i * 5 + j = i * 5 + j by omega]
theorem wpList_execV {ops : Array Oper} {Q : Exit → Act → World → Prop} {a : Act} {w : World} {rest : List Oper} {o : Oper} (v : Value) (hgd : Region.wanted o (yielded ops a.tmps) = true) (hx : (execOp a.eval o).run Tryz.prog w = .ok (.value v) w)
    (h : wpList Tryz.prog ops Q rest (a.put o.dst v) w) : wpList Tryz.prog ops Q (o :: rest) a w :=
  wpList_step fun K hK => by
    rw [if_pos hgd]
    unfold Oper.wp
    rw [hx, Oper.upon_value]
    exact hK _ _ h
theorem OzSame.trans {a b c : Oz} (h : OzSame a b) (k : OzSame b c) : OzSame a c := by
  cases a <;> cases b <;> cases c <;> simp only [OzSame] at h k ⊢
  obtain ⟨h1, h2, h3⟩ := h
  obtain ⟨k1, k2, k3⟩ := k
  exact ⟨h1.trans k1, fun i hi => (h2 i hi).trans (k2 i hi), fun r r0 r1 => (h3 r r0 r1).trans (k3 r r0 r1)⟩
/-- a code, and the plan of the better one, end alike -/
theorem all_same {many lev : Int} {l : List Opx} (W : Well many l) (wt : Int → Bool) (r m : Nat → Int) : OzSame (runZ wt (eachL l) (nwX r 34) m) (runZ wt (makeP (optL lev l)).rows (nwX r 34) m) :=
  (ends_same W wt r m).trans (plan_same (W.opt lev) wt _ m)
/-- rows of a plan that was made are few and short -/
theorem few_make {many : Int} {l : List Opx} (W : Well many l) : Few (makeP l).rows := by
  have h := (makeP_ok l).2
  have hl := W.len
  exact ⟨by have := h.1; omega, fun r hr => by have := h.2 r hr; omega⟩
theorem rok_make {l : List Opx} (ok : ∀ o ∈ l, o.ok) : ∀ r ∈ (makeP l).rows, ∀ o ∈ r, o.ok := fun r hr o ho =>
  ok o ((make_perm l).mem_iff.1 (List.mem_flatten.2 ⟨r, hr, ho⟩))
theorem opt_any {pe : Nat → Addr} {w : World} (E : Eg pe w) {v : Value} {l : List Opx} (A : OpsIn w v l) (hl : l.length ≤ 1000000) (pc many lev : Int) (m0 : -9223372036854775808 ≤ many) (m1 : many ≤ 9223372036854775807) (hf : codeF many l = (0, -1)) (hv : lev = 0 ∨ lev = 1 ∨ lev = 2) :
    Calls Tryz.prog 28 #[.agg #[.int .u32 pc, .int .i64 many, v], .int .i64 lev] w fun e w' => OptPost w pc many (optL lev l) e w' := by
  rcases hv with rfl | rfl | rfl
  · exact opt_0 pe E A hl pc many m0 m1 hf
  · exact opt_1 pe E A hl pc many m0 m1 hf
  · exact opt_2 pe E A hl pc many m0 m1 hf
end Go.Proofs.YtflagpkmebdckaaGreatDoor
