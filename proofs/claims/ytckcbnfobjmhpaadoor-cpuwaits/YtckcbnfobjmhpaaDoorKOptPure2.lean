/-
  Better codes in whole numbers: what is known and what is dead as the document counts them.
-/
import Derived.Test.YtckcbnfobjmhpaaDoorKIrPure
namespace Go.Proofs.YtckcbnfobjmhpaaDoor
open Num
set_option linter.unusedVariables false
theorem factsF_snoc (f : Fx) (l : List Opx) (o : Opx) : factsF f (l ++ [o]) = learnF (factsF f l) o := by unfold factsF; rw [List.foldl_append]; rfl
theorem factsF_zero : ∀ (l : List Opx) (f : Fx), (f 0).isSome = true → (factsF f l 0).isSome = true
  | [], f, h => h
  | o :: l, f, h => by
    refine factsF_zero l (learnF f o) ?_
    unfold learnF
    by_cases h0 : wrX o = 0
    · rw [if_pos h0]; exact h
    · rw [if_neg h0]; unfold putF; rw [if_neg (fun e => h0 e.symm)]; exact h
/-- is a register known behind ops? -/
def knw (l : List Opx) (n : Int) : Bool := (factsF fx0 l n).isSome
theorem knw_zero (l : List Opx) : knw l 0 = true := factsF_zero l fx0 rfl
theorem knw_nil {n : Int} (h : n ≠ 0) : knw [] n = false := by unfold knw factsF fx0; simp [h]
theorem knw_snoc (l : List Opx) (o : Opx) {n : Int} (h : n ≠ 0) : knw (l ++ [o]) n = if wrX o = n then decide (o.k = 1) else knw l n := by
  unfold knw
  rw [factsF_snoc]
  unfold learnF
  by_cases h0 : wrX o = 0
  · rw [if_pos h0, if_neg (by omega)]
  · rw [if_neg h0]; unfold putF
    by_cases h1 : n = wrX o
    · rw [if_pos h1, if_pos h1.symm]
      by_cases h2 : o.k = 1 <;> simp [h2]
    · rw [if_neg h1, if_neg (fun e => h1 e.symm)]
theorem knownC_snoc : ∀ (l : List Opx) (f : Fx) (o : Opx), knownC f (l ++ [o]) = knownC f l + (if tellB (factsF f l) o = true then 1 else 0)
  | [], f, o => by show (if tellB f o = true then 1 else 0) + 0 = 0 + _; rw [Nat.add_zero, Nat.zero_add]; rfl
  | x :: l, f, o => by
    show (if tellB f x = true then 1 else 0) + knownC (learnF f x) (l ++ [o]) = (if tellB f x = true then 1 else 0) + knownC (learnF f x) l + (if tellB (factsF (learnF f x) l) o = true then 1 else 0)
    rw [knownC_snoc l, Nat.add_assoc]
theorem tell_knw (l : List Opx) (o : Opx) : tellB (factsF fx0 l) o = (decide (3 ≤ o.k ∧ o.k ≤ 16) && knw l o.a && knw l o.b) := rfl
theorem knownC_le : ∀ (l : List Opx) (f : Fx), knownC f l ≤ l.length
  | [], _ => Nat.le_refl _
  | x :: l, f => by
    show (if tellB f x = true then 1 else 0) + knownC (learnF f x) l ≤ _
    have := knownC_le l (learnF f x)
    simp only [List.length_cons]
    split <;> omega
/-- whether a register is asked for no more: gone through as the document does -/
def scanD (d : Int) : Bool → List Opx → Bool
  | _, [] => decide (33 < d)
  | f, x :: l => if d ∈ rdX x then false else if wrX x = d then decide (33 < d) || !f else scanD d (f || decide (x.k = 25)) l
def deadD (o : Opx) (l : List Opx) : Bool := decide (1 ≤ o.k ∧ o.k ≤ 20) && scanD o.d false l
def deadN : List Opx → Nat
  | [] => 0
  | o :: l => (if deadD o l = true then 1 else 0) + deadN l
theorem deadN_le : ∀ (l : List Opx), deadN l ≤ l.length
  | [] => Nat.le_refl _
  | x :: l => by
    show (if deadD x l = true then 1 else 0) + deadN l ≤ _
    have := deadN_le l
    simp only [List.length_cons]
    split <;> omega
/-- ops whose last one leaves, and no other one does -/
def endL (l : List Opx) : Prop := ∃ o, l.getLast? = some o ∧ outB o = true
theorem endL_tail {o : Opx} {l : List Opx} (h : endL (o :: l)) (hl : l ≠ []) : endL l := by
  cases l with
  | nil => exact absurd rfl hl
  | cons b l => obtain ⟨x, h1, h2⟩ := h; rw [List.getLast?_cons_cons] at h1; exact ⟨x, h1, h2⟩
theorem scan_need {many : Int} {d : Int} (h1 : 1 ≤ d) : ∀ (l : List Opx) (ah : Int) (f : Bool), wellL many ah l → endL l → scanD d f l = ((!f || decide (33 < d)) && !needN l d)
  | [], _, _, _, h => by obtain ⟨o, h, _⟩ := h; cases h
  | x :: l, ah, f, hw, he => by
    show (if d ∈ rdX x then false else if wrX x = d then decide (33 < d) || !f else scanD d (f || decide (x.k = 25)) l) = (((!f || decide (33 < d)) && !(if d ∈ rdX x then true else if d = wrX x then false else if 25 ≤ x.k ∧ 0 ≤ d ∧ d ≤ 33 then true else needN l d)))
    by_cases hr : d ∈ rdX x
    · rw [if_pos hr, if_pos hr]; simp
    rw [if_neg hr, if_neg hr]
    by_cases hd : wrX x = d
    · rw [if_pos hd, if_pos hd.symm]; cases f <;> simp
    rw [if_neg hd, if_neg (fun e => hd e.symm)]
    by_cases hl : l = []
    · subst hl
      obtain ⟨o, h3, h4⟩ := he
      obtain rfl : x = o := by simpa using h3
      have hk : x.k = 26 ∨ x.k = 27 := by unfold outB at h4; simpa using h4
      have hk2 : x.k ≠ 25 := by omega
      show decide (33 < d) = _
      by_cases h33 : 33 < d
      · rw [if_neg (by omega)]; simp [h33, needN]
      · rw [if_pos (by omega)]; simp [h33]
    have hel := endL_tail he hl
    rw [scan_need h1 l x.t _ hw.2.2.2 hel]
    have ho : ¬ outB x = true := fun e => hl (hw.2.2.1 e)
    have hk : ¬ (x.k = 26 ∨ x.k = 27) := by unfold outB at ho; simpa using ho
    have hk3 := kn_lt x.s
    by_cases h25 : x.k = 25
    · by_cases h33 : 33 < d
      · rw [if_neg (by omega)]; simp [h33]
      · rw [if_pos (by omega)]; simp [h33, h25]
    · rw [if_neg (by unfold Opx.k at *; omega)]; simp [h25]
theorem dead_spare {many ah : Int} {o : Opx} {l : List Opx} (hw : wellL many ah (o :: l)) (he : endL (o :: l)) : deadD o l = spareB (needN l) o := by
  by_cases hl : l = []
  · subst hl
    obtain ⟨x, h3, h4⟩ := he
    obtain rfl : o = x := by simpa using h3
    rw [spare_out _ h4]
    have hk : o.k = 26 ∨ o.k = 27 := by unfold outB at h4; simpa using h4
    have : ¬ (1 ≤ o.k ∧ o.k ≤ 20) := by omega
    unfold deadD; simp [this]
  have hel := endL_tail he hl
  unfold deadD spareB
  by_cases hk : 1 ≤ o.k ∧ o.k ≤ 20
  · have hd : alw 2 o.d = true := by
      obtain ⟨_, hb, _⟩ := opE_zero.1 hw.1
      unfold bndB at hb
      simp only [Bool.and_eq_true] at hb
      have e : rD o.k = 2 := by unfold rD; rw [if_pos (.inl hk)]
      rw [e] at hb; exact hb.1.1.1.1
    have hd' : 1 ≤ o.d := by unfold alw at hd; simp at hd; omega
    have e : wrX o = o.d := by unfold wrX rD; rw [if_pos (by rw [if_pos (.inl hk)])]
    rw [scan_need hd' l o.t false hw.2.2.2 hel, e]
    have h23 : o.k ≠ 23 := by omega
    have h0 : o.d ≠ 0 := by omega
    simp [hk, h23, h0]
  · by_cases h23 : o.k = 23
    · simp [h23]
    · have e : wrX o = 0 := by
        unfold wrX rD
        by_cases h : o.k = 24
        · simp [h]
        · rw [if_neg (show ¬ (1 ≤ o.k ∧ o.k ≤ 20 ∨ o.k = 23) by omega), if_neg h]; rfl
      rw [e]; simp [hk]
theorem deadN_deadC {many : Int} : ∀ (l : List Opx) (ah : Int), wellL many ah l → endL l → deadN l = deadC l
  | [], _, _, _ => rfl
  | o :: l, ah, hw, he => by
    show (if deadD o l = true then 1 else 0) + deadN l = (if spareB (needN l) o = true then 1 else 0) + deadC l
    rw [dead_spare hw he]
    by_cases hl : l = []
    · subst hl; rfl
    · rw [deadN_deadC l o.t hw.2.2.2 (endL_tail he hl)]
theorem deadN_well {many : Int} {l : List Opx} (W : Well many l) : deadN l = deadC l := deadN_deadC l 0 W.ops W.last
theorem learn_some {f g : Fx} {o : Opx} {r : Int} (h : r ≠ wrX o ∨ wrX o = 0 → (f r).isSome = (g r).isSome) : (learnF f o r).isSome = (learnF g o r).isSome := by
  unfold learnF
  by_cases h0 : wrX o = 0
  · rw [if_pos h0, if_pos h0]; exact h (.inr h0)
  · rw [if_neg h0, if_neg h0]; unfold putF
    by_cases h1 : r = wrX o
    · rw [if_pos h1, if_pos h1]
    · rw [if_neg h1, if_neg h1]; exact h (.inl h1)
/-- dropping what is dead makes nothing known -/
theorem known_drop : ∀ (l : List Opx) (f g : Fx), (∀ r, r = 0 ∨ needN (dropD l) r = true → (f r).isSome = (g r).isSome) → knownC g l = 0 → knownC f (dropD l) = 0
  | [], _, _, _, _ => rfl
  | o :: l, f, g, h, hk => by
    have hk2 : (if tellB g o = true then 1 else 0) + knownC (learnF g o) l = 0 := hk
    have ht : tellB g o = false := by
      cases e : tellB g o with
      | false => rfl
      | true => rw [e] at hk2; simp at hk2
    have hr : knownC (learnF g o) l = 0 := by omega
    unfold dropD at h ⊢
    by_cases hs : spareB (needN (dropD l)) o = true
    · rw [if_pos hs] at h ⊢
      refine known_drop l f (learnF g o) (fun r hr2 => ?_) hr
      unfold spareB at hs
      simp only [Bool.and_eq_true, decide_eq_true_eq, Bool.not_eq_true'] at hs
      rw [h r hr2]
      unfold learnF
      rw [if_neg hs.1.1]
      unfold putF
      rw [if_neg]
      intro e
      rcases hr2 with hr2 | hr2
      · exact hs.1.1 (by rw [← e]; exact hr2)
      · rw [e, hs.2] at hr2; cases hr2
    · rw [if_neg hs] at h ⊢
      show (if tellB f o = true then 1 else 0) + knownC (learnF f o) (dropD l) = 0
      have ha : ∀ r, r ∈ rdX o → (f r).isSome = (g r).isSome := fun r hr2 => h r (.inr (by show passN _ o r = true; unfold passN; rw [if_pos hr2]))
      have et : tellB f o = tellB g o := by
        unfold tellB
        by_cases hk3 : 3 ≤ o.k ∧ o.k ≤ 16
        · have e1 : o.a ∈ rdX o := by have e3 : rA o.k = 1 := (by unfold rA; rw [if_pos (by omega)]); unfold rdX; rw [e3]; simp
          have e2 : o.b ∈ rdX o := by have e3 : rB o.k = 1 := (by unfold rB; rw [if_pos (by omega)]); unfold rdX; rw [e3]; simp
          rw [ha _ e1, ha _ e2]
        · simp [hk3]
      rw [et, ht]
      have := known_drop l (learnF f o) (learnF g o) (fun r hr2 => learn_some fun hne => ?_) hr
      · rw [this]; rfl
      by_cases hr0 : r = 0
      · exact h r (.inl hr0)
      · rcases hr2 with hr2 | hr2
        · exact absurd hr2 hr0
        · refine h r (.inr ?_)
          show passN _ o r = true
          unfold passN
          by_cases h1 : r ∈ rdX o
          · rw [if_pos h1]
          · have h2 : r ≠ wrX o := by
              rcases hne with hne | hne
              · exact hne
              · rw [hne]; exact hr0
            rw [if_neg h1, if_neg h2]
            split
            · rfl
            · exact hr2
theorem known_opt {lev : Int} (h : 0 < lev) (l : List Opx) : knownC fx0 (optL lev l) = 0 := by
  unfold optL
  rw [if_neg (by omega)]
  split
  · exact knownC_work l fx0
  · exact known_drop _ fx0 fx0 (fun _ _ => rfl) (knownC_work l fx0)
theorem dead_opt {many lev : Int} {l : List Opx} (W : Well many l) (h : 1 < lev) : deadN (optL lev l) = 0 := by
  rw [deadN_well (W.opt lev)]
  unfold optL
  rw [if_neg (by omega), if_neg (by omega)]
  exact deadC_drop _
end Go.Proofs.YtckcbnfobjmhpaaDoor
/-
  What a kind writes is a word.
-/
namespace Go.Proofs.YtckcbnfobjmhpaaDoor
open Num
set_option linter.unusedVariables false
def u32 (x : Int) : Prop := 0 ≤ x ∧ x < 4294967296
theorem u32_and_bd {a b : Int} (ha : u32 a) (hb : u32 b) : u32 (bits .and .u32 a b) := by
  obtain ⟨x, rfl⟩ : ∃ n : Nat, a = n := ⟨a.toNat, by have := ha.1; omega⟩
  obtain ⟨y, rfl⟩ : ∃ n : Nat, b = n := ⟨b.toNat, by have := hb.1; omega⟩
  have h1 := ha.2
  have h2 := hb.2
  rw [u32_and_nat x y (by omega) (by omega)]
  exact ⟨by omega, by have : x &&& y ≤ x := Nat.and_le_left; omega⟩
theorem u32_or_bd {a b : Int} (ha : u32 a) (hb : u32 b) : u32 (bits .or .u32 a b) := by
  obtain ⟨x, rfl⟩ : ∃ n : Nat, a = n := ⟨a.toNat, by have := ha.1; omega⟩
  obtain ⟨y, rfl⟩ : ∃ n : Nat, b = n := ⟨b.toNat, by have := hb.1; omega⟩
  have h1 := ha.2
  have h2 := hb.2
  rw [u32_or_nat x y (by omega) (by omega)]
  exact ⟨by omega, by have : x ||| y < 2 ^ 32 := Nat.or_lt_two_pow (by omega) (by omega); omega⟩
theorem u32_xor_bd {a b : Int} (ha : u32 a) (hb : u32 b) : u32 (bits .xor .u32 a b) := by
  obtain ⟨x, rfl⟩ : ∃ n : Nat, a = n := ⟨a.toNat, by have := ha.1; omega⟩
  obtain ⟨y, rfl⟩ : ∃ n : Nat, b = n := ⟨b.toNat, by have := hb.1; omega⟩
  have h1 := ha.2
  have h2 := hb.2
  rw [u32_xor_nat x y (by omega) (by omega)]
  exact ⟨by omega, by have : x ^^^ y < 2 ^ 32 := Nat.xor_lt_two_pow (by omega) (by omega); omega⟩
theorem u32_ite {c : Prop} [Decidable c] {x y : Int} (hx : u32 x) (hy : u32 y) : u32 (if c then x else y) := by split <;> assumption
theorem valV_bd (k : Nat) {a b d i : Int} (ha : u32 a) (hb : u32 b) (hd : u32 d) (hi : u32 i) : u32 (valV k a b d i) := by
  have h1 : u32 1 := ⟨by omega, by omega⟩
  have h0 : u32 0 := ⟨by omega, by omega⟩
  unfold valV
  repeat' (first | exact shf_bd ha.1 ha.2 | apply u32_ite)
  all_goals first | assumption | exact lo_bd _ | exact hi_bd _ | exact u32_and_bd ha hb | exact u32_or_bd ha hb | exact u32_xor_bd ha hb | exact u32_xor_bd ⟨by omega, by omega⟩ (u32_or_bd ha hb) | exact shf_bd ha.1 ha.2 | exact quo_bd _ _ _ | exact rst_bd _ _ _
theorem res_bd {f : Fx} {o : Opx} {v : Int} (hf : ∀ x v, f x = some v → 0 ≤ v ∧ v < 4294967296) (h : resF f o = some v) : 0 ≤ v ∧ v < 4294967296 := by
  unfold resF at h
  split at h
  · exact hf _ _ h
  · split at h
    · rename_i h2
      unfold tellB at h2
      simp only [Bool.and_eq_true, decide_eq_true_eq, Option.isSome_iff_exists] at h2
      obtain ⟨⟨h3, a, ha⟩, b, hb⟩ := h2
      rw [ha, hb] at h
      cases h
      exact valV_bd _ (hf _ _ ha) (hf _ _ hb) ⟨by omega, by omega⟩ ⟨by omega, by omega⟩
    · cases h
theorem told_ok {f : Fx} {o : Opx} (hf : ∀ x v, f x = some v → 0 ≤ v ∧ v < 4294967296) (h : o.ok) : (toldO f o).ok := by
  cases hr : resF f o with
  | none => rw [told_none hr]; exact h
  | some v =>
    rw [told_some hr]
    obtain ⟨v0, v1⟩ := res_bd hf hr
    exact ⟨h.d0, h.d1, by show _ ≤ (0 : Int); omega, by show (0 : Int) ≤ _; omega, by show _ ≤ (0 : Int); omega, by show (0 : Int) ≤ _; omega, v0, v1, h.t0, h.t1⟩
end Go.Proofs.YtckcbnfobjmhpaaDoor
