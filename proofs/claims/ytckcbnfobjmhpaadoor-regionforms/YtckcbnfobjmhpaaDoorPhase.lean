/-
  As Serial, where the class is asked for only till one operation, z, has come up: what reads by the class has come up ahead of z.
-/
import Derived.Test.YtckcbnfobjmhpaaDoorSerial
namespace Go.Proofs.YtckcbnfobjmhpaaDoor
set_option linter.unusedVariables false
section
variable {P : Program} {ops : Array Oper} {Q : Exit → Act → World → Prop} {md : Region.Mode} {C : World → Prop} {z : Nat}
/-- what has come up had all that it waits for -/
def Dn (md : Region.Mode) (ops : Array Oper) (listed : Array Bool) : Prop := ∀ (j : Nat) (oj : Oper), ops[j]? = some oj → listed.getD j false = true → ∀ e ∈ oj.after, Region.binds md e = true → listed.getD e.on false = true
theorem Dn.set {listed : Array Bool} (d : Dn md ops listed) {i : Nat} (hi : i ∈ Region.ready md ops listed) : Dn md ops (listed.setIfInBounds i true) := by
  intro j oj hj hl e he hb
  by_cases hij : i = j
  · subst hij
    obtain ⟨_, o, ho, hall⟩ := mem_ready.1 hi
    obtain rfl : o = oj := Option.some.inj (ho.symm.trans hj)
    exact getD_set_true (hall e he hb)
  · rw [getD_set_ne false hij] at hl
    exact getD_set_true (d j oj hj hl e he hb)
theorem Dn.none (n : Nat) : Dn md ops (Array.replicate n false) := by
  intro j oj hj hl
  by_cases h : j < n <;> simp [h] at hl
def Cz (C : World → Prop) (z : Nat) (listed : Array Bool) (w : World) : Prop := listed.getD z false = false → C w
def wpAnyZ (P : Program) (md : Region.Mode) (ops : Array Oper) (C : World → Prop) (z : Nat) (Q : Exit → Act → World → Prop) : Nat → Array Bool → Act → World → Prop
  | 0, listed, a, w => Cz C z listed w ∧ Region.ready md ops listed = [] ∧ Q .normal a w
  | fuel + 1, listed, a, w => Cz C z listed w ∧ (Region.ready md ops listed = [] → Q .normal a w) ∧ ∀ i ∈ Region.ready md ops listed, wpOp P ops Q i (wpAnyZ P md ops C z Q fuel (listed.setIfInBounds i true)) a w
theorem wpAny_of_Z : ∀ (fuel : Nat) (listed : Array Bool) (a : Act) (w : World), wpAnyZ P md ops C z Q fuel listed a w → wpAny P md ops Q fuel listed a w
  | 0, _, _, _, h => ⟨h.2.1, h.2.2⟩
  | fuel + 1, _, _, _, h => ⟨h.2.1, fun i hi => wpOp_mono (fun a' w' => wpAny_of_Z fuel _ a' w') (h.2.2 i hi)⟩
theorem wpAnyZ_in : ∀ {fuel : Nat} {listed : Array Bool} {a : Act} {w : World}, wpAnyZ P md ops C z Q fuel listed a w → Cz C z listed w
  | 0, _, _, _, h => h.1
  | _ + 1, _, _, _, h => h.1
/-- does z wait for i? -/
def waitsB (md : Region.Mode) (ops : Array Oper) (z i : Nat) : Bool := match ops[z]? with | none => true | some oz => oz.after.any fun e => Region.binds md e && e.on == i
theorem waits_not {i : Nat} {listed : Array Bool} (d : Dn md ops listed) (hsz : listed.size = ops.size) (h : waitsB md ops z i = true) (hi : i ∈ Region.ready md ops listed) : listed.getD z false = false := by
  cases hz : ops[z]? with
  | none =>
    have : ¬ z < ops.size := fun h => by rw [Array.getElem?_eq_getElem h] at hz; cases hz
    have : ¬ z < listed.size := by omega
    simp [this]
  | some oz =>
    unfold waitsB at h
    rw [hz] at h
    obtain ⟨e, he, hb⟩ := Array.any_eq_true'.1 h
    simp only [Bool.and_eq_true, beq_iff_eq] at hb
    cases hl : listed.getD z false with
    | false => rfl
    | true =>
      have h1 := d z oz hz hl e he hb.1
      have h0 := (mem_ready.1 hi).1
      rw [hb.2] at h1
      rcases Nat.lt_or_ge i listed.size with h' | h'
      · simp [h'] at h0 h1; rw [h0] at h1; cases h1
      · simp [Array.getElem?_eq_none h'] at h1
/-- u: is the class asked for? -/
theorem wpAnyZ_first {i : Nat} {oi : Oper} {v : Value} (u : Bool) (hi : ops[i]? = some oi) (hsel : ∀ (j : Nat) (o : Oper) cs b, ops[j]? = some o → o.op ≠ .select cs b)
    (hQ : ∀ c a w, Q (.panic c) (a.put oi.dst v) w → Q (.panic c) a w) (hu : u = true → waitsB md ops z i = true) (hiz : i ≠ z) :
    ∀ (fuel : Nat) (listed : Array Bool) (a : Act) (w : World), Dn md ops listed → listed.size = ops.size →
      (∀ j oj, ops[j]? = some oj → j ≠ i → listed.getD j true = false → (∀ e ∈ oj.after, Region.binds md e = true → e.on ≠ i) → oi.apart ops oj = true) →
      i ∈ Region.ready md ops listed → YieldsC P ops (fun w => u = true → C w) oi v a →
      wpAnyZ P md ops C z Q fuel (listed.setIfInBounds i true) (a.put oi.dst v) w → wpAnyZ P md ops C z Q (fuel + 1) listed a w := by
  intro fuel
  induction fuel with
  | zero =>
    intro listed a w d hsz _ hr hy H
    have hc : Cz C z listed w := fun h => H.1 (by rw [getD_set_ne false hiz]; exact h)
    refine ⟨hc, fun h => (by rw [h] at hr; cases hr), fun j hj => ?_⟩
    by_cases hji : j = i
    · subst hji; exact hy.wpOp hi (fun h => hc (waits_not d hsz (hu h) hr)) H
    · have := ready_mono hj hji
      rw [H.2.1] at this
      cases this
  | succ fuel ih =>
    intro listed a w d hsz hfree hr hy H
    have hc : Cz C z listed w := fun h => H.1 (by rw [getD_set_ne false hiz]; exact h)
    refine ⟨hc, fun h => (by rw [h] at hr; cases hr), fun j hj => ?_⟩
    by_cases hji : j = i
    · subst hji; exact hy.wpOp hi (fun h => hc (waits_not d hsz (hu h) hr)) H
    · have h1 := H.2.2 j (ready_mono hj hji)
      obtain ⟨hjun, oj, hoj, hall⟩ := mem_ready.1 hj
      have hnot : ∀ e ∈ oj.after, Region.binds md e = true → e.on ≠ i := fun e he hb heq => by
        have h1 := hall e he hb
        have h0 := (mem_ready.1 hr).1
        rw [heq] at h1
        rcases Nat.lt_or_ge i listed.size with h' | h'
        · simp [h'] at h0 h1; rw [h0] at h1; cases h1
        · simp [Array.getElem?_eq_none h'] at h1
      have h2 := wpOp_putC hoj (hfree j oj hoj hji hjun hnot) (fun cs b => hsel i oi cs b hi) (fun cs b => hsel j oj cs b hoj) hQ hy h1
      have hfree' : ∀ k ok, ops[k]? = some ok → k ≠ i → (listed.setIfInBounds j true).getD k true = false →
          (∀ e ∈ ok.after, Region.binds md e = true → e.on ≠ i) → oi.apart ops ok = true := fun k ok hk hki hun hno => by
        refine hfree k ok hk hki ?_ hno
        by_cases hjk : j = k
        · subst hjk; exact hjun
        · rw [getD_set_ne true hjk] at hun; exact hun
      refine wpOp_mono (fun a' w' h3 => ih (listed.setIfInBounds j true) a' w' (d.set hj) (by simpa using hsz) hfree' (ready_mono hr (Ne.symm hji)) h3.1 ?_) h2
      rw [Array.setIfInBounds_comm _ _ hji]
      exact h3.2
/-- a plan: 0: yields in every world; 1: in every world of the class; 2: done where it stands, nothing else may come up there -/
def planZ (md : Region.Mode) (ops : Array Oper) (z : Nat) : List (Nat × Nat) → Array Bool → Bool
  | [], listed => (Region.ready md ops listed).isEmpty
  | (i, k) :: rest, listed => (if k = 2 then Region.ready md ops listed == [i] else (Region.ready md ops listed).contains i && Region.free md ops listed i && decide (i ≠ z) && (decide (k = 0) || waitsB md ops z i)) && planZ md ops z rest (listed.setIfInBounds i true)
def allZ (ops : Array Oper) (z : Nat) (plan : List (Nat × Nat)) : Bool := Region.noSelect ops && plan.length == ops.size && planZ .any ops z plan (Array.replicate ops.size false)
def oneZ (P : Program) (ops : Array Oper) (C : World → Prop) (Q : Exit → Act → World → Prop) (k : Nat) (on : Bool) (o : Oper) (K : Act → World → Prop) (a : Act) (w : World) : Prop :=
  if Region.wanted o (yielded ops a.tmps) = true then
    if k = 2 then o.wp P a w (fun a' w' => (on = true → C w') ∧ K a' w') Q else ∃ v, (∀ W, (k ≠ 0 → C W) → upon W v ((execOp a.eval o).run P W)) ∧ K (a.put o.dst v) w
  else K (a.put o.dst undef) w
def wpPlanZ (P : Program) (ops : Array Oper) (C : World → Prop) (z : Nat) (Q : Exit → Act → World → Prop) : Bool → List (Nat × Nat) → Act → World → Prop
  | _, [], a, w => Q .normal a w
  | on, (i, k) :: rest, a, w => ∃ o, ops[i]? = some o ∧ oneZ P ops C Q k (on && i != z) o (wpPlanZ P ops C z Q (on && i != z) rest) a w
theorem wpAnyZ_plan (hs : Region.noSelect ops = true) (hQ : ∀ c a w d v, Q (.panic c) (a.put d v) w → Q (.panic c) a w) : ∀ (plan : List (Nat × Nat)) (on : Bool) (listed : Array Bool) (a : Act) (w : World), Dn md ops listed → listed.size = ops.size → (on = false → listed.getD z false = true) → planZ md ops z plan listed = true → (on = true → C w) → wpPlanZ P ops C z Q on plan a w → wpAnyZ P md ops C z Q plan.length listed a w
  | [], on, listed, a, w, d, hsz, ho, hB, hw, h => ⟨fun hz => (by cases on with | true => exact hw rfl | false => rw [ho rfl] at hz; cases hz), by simpa [planZ] using hB, h⟩
  | (i, k) :: rest, on, listed, a, w, d, hsz, hon, hB, hw, ⟨o, ho, h⟩ => by
    simp only [planZ, Bool.and_eq_true] at hB
    obtain ⟨hB1, hB2⟩ := hB
    have ih := wpAnyZ_plan hs hQ rest (on && i != z) (listed.setIfInBounds i true)
    have hcz : Cz C z listed w := fun hz => (by cases on with | true => exact hw rfl | false => rw [hon rfl] at hz; cases hz)
    have hon' : ∀ (hl : i < ops.size), (on && i != z) = false → (listed.setIfInBounds i true).getD z false = true := by
      intro hl h
      by_cases e : i = z
      · subst e; have : i < listed.size := by omega
        simp [this]
      · have : on = false := by simpa [e] using h
        exact getD_set_true (hon this)
    have hl : i < ops.size := (Array.getElem?_eq_some_iff.1 ho).1
    unfold oneZ at h
    by_cases hk : k = 2
    · simp only [hk, if_true, beq_iff_eq] at hB1 h
      have hm : i ∈ Region.ready md ops listed := by rw [hB1]; exact List.mem_singleton.2 rfl
      refine ⟨hcz, fun h0 => (by rw [hB1] at h0; cases h0), fun j hj => ?_⟩
      rw [hB1, List.mem_singleton] at hj
      subst hj
      unfold wpOp
      simp only [ho]
      by_cases hwt : Region.wanted o (yielded ops a.tmps) = true
      · simp only [hwt, if_true] at h ⊢
        exact .inl (Oper.wp_mono (fun a' w' h' => ih a' w' (d.set hm) (by simpa using hsz) (hon' hl) hB2 h'.1 h'.2) h)
      · simp only [hwt] at h ⊢
        exact ih _ _ (d.set hm) (by simpa using hsz) (hon' hl) hB2 (fun h => hw (by simp only [Bool.and_eq_true] at h; exact h.1)) h
    · simp only [hk, if_false, Bool.and_eq_true] at hB1 h
      obtain ⟨⟨⟨hr, hf⟩, hiz⟩, hwz⟩ := hB1
      have hiz' : i ≠ z := of_decide_eq_true hiz
      have hm : i ∈ Region.ready md ops listed := by simpa using hr
      have hu : (decide (k ≠ 0)) = true → waitsB md ops z i = true := by
        intro hk0
        have : k ≠ 0 := of_decide_eq_true hk0
        simpa [this] using hwz
      have hw' : (on && i != z) = true → C w := fun h => hw (by simp only [Bool.and_eq_true] at h; exact h.1)
      by_cases hwt : Region.wanted o (yielded ops a.tmps) = true
      · simp only [hwt, if_true] at h
        obtain ⟨v, hy, hK⟩ := h
        exact wpAnyZ_first (decide (k ≠ 0)) ho (Region.noSelect_spec hs) (fun c a w => hQ c a w _ _) hu hiz' rest.length listed a w d hsz (Region.free_spec ho hf) hm (.inl ⟨hwt, fun W hW => hy W (fun hk0 => hW (decide_eq_true hk0))⟩) (ih _ _ (d.set hm) (by simpa using hsz) (hon' hl) hB2 hw' hK)
      · simp only [hwt] at h
        exact wpAnyZ_first (decide (k ≠ 0)) ho (Region.noSelect_spec hs) (fun c a w => hQ c a w _ _) hu hiz' rest.length listed a w d hsz (Region.free_spec ho hf) hm (.inr ⟨by simpa using hwt, rfl⟩) (ih _ _ (d.set hm) (by simpa using hsz) (hon' hl) hB2 hw' h)
theorem wp_region_phase {id : Nat} {a : Act} {w : World} (z : Nat) (plan : List (Nat × Nat)) (C : World → Prop) (hm : P.follows .mixedOrders = true) (hB : allZ ops z plan = true) (hQ : ∀ c a w d v, Q (.panic c) (a.put d v) w → Q (.panic c) a w)
    (hC : C w.drew) (h : wpPlanZ P ops C z Q true plan a w.drew) : (Code.region id ops true).wp P Q a w := by
  simp only [allZ, Bool.and_eq_true, beq_iff_eq] at hB
  obtain ⟨⟨h1, h2⟩, h3⟩ := hB
  have := wpAny_of_Z _ _ _ _ (wpAnyZ_plan (md := .any) h1 hQ plan true _ a w.drew (Dn.none _) (by simp) (fun h => by cases h) h3 (fun _ => hC) h)
  rw [h2] at this
  exact wp_region_any hm this
theorem wpPlanZ_nil {on : Bool} {a : Act} {w : World} (h : Q .normal a w) : wpPlanZ P ops C z Q on [] a w := by cases on <;> exact h
theorem wpPlanZ_free {on : Bool} {i : Nat} {rest : List (Nat × Nat)} {a : Act} {w : World} {o : Oper} {v : Value} (ho : ops[i]? = some o) (hwt : Region.wanted o (yielded ops a.tmps) = true) (hv : ∀ W, (execOp a.eval o).run P W = .ok (.value v) W) (h : ∀ K : Act → Prop, (∀ a', wpPlanZ P ops C z Q (on && i != z) rest a' w → K a') → K (a.put o.dst v)) : wpPlanZ P ops C z Q on ((i, 0) :: rest) a w :=
  ⟨o, ho, by unfold oneZ; rw [if_pos hwt, if_neg (by simp)]; exact ⟨v, fun W _ => by rw [hv W]; exact ⟨rfl, rfl⟩, h _ (fun _ h => h)⟩⟩
theorem wpPlanZ_quiet {on : Bool} {i : Nat} {rest : List (Nat × Nat)} {a : Act} {w : World} {o : Oper} {v : Value} (ho : ops[i]? = some o) (hwt : Region.wanted o (yielded ops a.tmps) = true) (hv : ∀ W, C W → (execOp a.eval o).run P W = .ok (.value v) W) (h : ∀ K : Act → Prop, (∀ a', wpPlanZ P ops C z Q (on && i != z) rest a' w → K a') → K (a.put o.dst v)) : wpPlanZ P ops C z Q on ((i, 1) :: rest) a w :=
  ⟨o, ho, by unfold oneZ; rw [if_pos hwt, if_neg (by simp)]; exact ⟨v, fun W hW => by rw [hv W (hW (by simp))]; exact ⟨rfl, rfl⟩, h _ (fun _ h => h)⟩⟩
theorem wpPlanZ_serial {on : Bool} {i : Nat} {rest : List (Nat × Nat)} {a : Act} {w : World} {o : Oper} (ho : ops[i]? = some o) (hwt : Region.wanted o (yielded ops a.tmps) = true) (h : ∀ K : Act → World → Prop, (∀ a' w', ((on && i != z) = true → C w') → wpPlanZ P ops C z Q (on && i != z) rest a' w' → K a' w') → o.wp P a w K Q) : wpPlanZ P ops C z Q on ((i, 2) :: rest) a w :=
  ⟨o, ho, by unfold oneZ; rw [if_pos hwt, if_pos rfl]; exact h _ (fun a' w' h1 h2 => ⟨h1, h2⟩)⟩
end
end Go.Proofs.YtckcbnfobjmhpaaDoor
