/-
  A region that draws its order, some of whose operations yield one value in every world of a class, and whose other operations come up in one order alone and leave a world of the class: walked once, by a plan.
-/
import Derived.Orders
import Derived.Deep.QuietTactic
import Derived.Test.YtkehhlibkebomaaDoorKApp
namespace Go.Proofs.YtkehhlibkebomaaDoor
set_option linter.unusedVariables false
section
variable {P : Program} {ops : Array Oper} {Q : Exit → Act → World → Prop} {md : Region.Mode} {C : World → Prop}
def upon (W : World) (v : Value) : Result Next → Prop
  | .ok (.value u) w' => w' = W ∧ u = v
  | .ok .skip w' => w' = W ∧ v = undef
  | _ => False
/-- one value in every world of the class -/
def YieldsC (P : Program) (ops : Array Oper) (C : World → Prop) (o : Oper) (v : Value) (a : Act) : Prop :=
  (Region.wanted o (yielded ops a.tmps) = true ∧ ∀ w, C w → upon w v ((execOp a.eval o).run P w)) ∨
  (Region.wanted o (yielded ops a.tmps) = false ∧ v = undef)
theorem YieldsC.wpOp {i : Nat} {o : Oper} {v : Value} {a : Act} (hi : ops[i]? = some o) (hy : YieldsC P ops C o v a) {K : Act → World → Prop} {w : World} (hw : C w) (h : K (a.put o.dst v) w) : wpOp P ops Q i K a w := by
  unfold Go.wpOp
  simp only [hi]
  rcases hy with ⟨hwt, hv⟩ | ⟨hwt, rfl⟩
  · simp only [hwt, if_true, Oper.wp]
    have h1 := hv w hw
    generalize (execOp a.eval o).run P w = r at h1
    cases r with
    | ok n w' =>
      cases n <;> simp only [upon] at h1
      case value u => obtain ⟨rfl, rfl⟩ := h1; simp only [Oper.upon]; exact .inl h
      case skip => obtain ⟨rfl, rfl⟩ := h1; simp only [Oper.upon]; exact .inl h
    | halt x w' => simp only [upon] at h1
  · simp only [hwt, Bool.false_eq_true, if_false]; exact h
theorem YieldsC.of_same {o : Oper} {v : Value} {a a' : Act} (hy : YieldsC P ops C o v a) (he : execOp a'.eval o = execOp a.eval o) (hw : Region.wanted o (yielded ops a'.tmps) = Region.wanted o (yielded ops a.tmps)) : YieldsC P ops C o v a' := by
  unfold YieldsC at *
  rw [he, hw]
  exact hy
theorem wpOp_putC {j : Nat} {oi oj : Oper} {v : Value} (hj : ops[j]? = some oj) (hap : oi.apart ops oj = true)
    (hsi : ∀ cs b, oi.op ≠ .select cs b) (hsj : ∀ cs b, oj.op ≠ .select cs b)
    (hQ : ∀ c a w, Q (.panic c) (a.put oi.dst v) w → Q (.panic c) a w) {K : Act → World → Prop} {a : Act} {w : World}
    (hy : YieldsC P ops C oi v a) (h : wpOp P ops Q j K (a.put oi.dst v) w) :
    wpOp P ops Q j (fun a' w' => YieldsC P ops C oi v a' ∧ K (a'.put oi.dst v) w') a w := by
  obtain ⟨h1, h2, h3⟩ := Oper.apart_spec hap
  have keep : ∀ (a : Act), YieldsC P ops C oi v a → ∀ u, YieldsC P ops C oi v (a.put oj.dst u) := fun a hy u =>
    hy.of_same (execOp_put oi hsi a oj.dst u h3) (wanted_put oi a oj.dst u h3)
  have keepD : ∀ d, YieldsC P ops C oi v { a with defers := d :: a.defers } := fun d => hy.of_same rfl rfl
  unfold wpOp at *
  simp only [hj] at *
  rw [wanted_put oj a oi.dst v h1] at h
  split
  · rename_i hw
    simp only [hw, if_true] at h
    rcases h with h | ⟨hasks, hlets⟩
    case inr => exact .inr ⟨by unfold Oper.asks at *; rw [execOp_put oj hsj a oi.dst v h1] at hasks; exact hasks, hlets⟩
    refine .inl ?_
    unfold Oper.wp at *
    rw [execOp_put oj hsj a oi.dst v h1] at h
    generalize (execOp a.eval oj).run P w = r at *
    cases r with
    | ok n w' =>
      cases n <;> simp only [Oper.upon] at h ⊢
      case value u => exact ⟨keep a hy u, by rw [← Act.put_comm a v u h2]; exact h⟩
      case skip => exact ⟨keep a hy _, by rw [← Act.put_comm a v undef h2]; exact h⟩
      case defer d =>
        refine ⟨keep _ (keepD d) _, ?_⟩
        rw [← Act.put_comm _ v undef h2, ← Act.put_defers]
        exact h
      case enter f args =>
        refine Calls.mono h fun e w'' he => ?_
        cases e with
        | returned u => exact ⟨keep a hy u, by rw [← Act.put_comm a v u h2]; exact he⟩
        | panicked c => exact hQ _ _ _ he
        | outgrown => exact he
      case row row args => exact Rows.mono h fun u w'' he => ⟨keep a hy u, by rw [← Act.put_comm a v u h2]; exact he⟩
    | halt x w' =>
      cases x <;> simp only [Oper.upon] at h ⊢
      case panic u => exact hQ _ _ _ h
  · rename_i hw
    simp only [hw] at h
    exact ⟨keep a hy _, by rw [← Act.put_comm a v undef h2]; exact h⟩
def one (P : Program) (ops : Array Oper) (C : World → Prop) (Q : Exit → Act → World → Prop) (s : Bool) (o : Oper) (K : Act → World → Prop) (a : Act) (w : World) : Prop :=
  if Region.wanted o (yielded ops a.tmps) = true then
    if s = true then o.wp P a w (fun a' w' => C w' ∧ K a' w') Q else ∃ v, (∀ W, C W → upon W v ((execOp a.eval o).run P W)) ∧ K (a.put o.dst v) w
  else K (a.put o.dst undef) w
end
end Go.Proofs.YtkehhlibkebomaaDoor
/-
  As Serial, where the class is asked for only till one operation, z, has come up: what reads by the class has come up ahead of z.
-/
namespace Go.Proofs.YtkehhlibkebomaaDoor
set_option linter.unusedVariables false
section
variable {P : Program} {ops : Array Oper} {Q : Exit → Act → World → Prop} {md : Region.Mode} {C : World → Prop} {z : Nat}
/-- what has come up had all that it waits for -/
def Dn (md : Region.Mode) (ops : Array Oper) (listed : Array Bool) : Prop := ∀ (j : Nat) (oj : Oper), ops[j]? = some oj → listed.getD j false = true → ∀ e ∈ oj.after, Region.binds md e = true → listed.getD e.on false = true
theorem Dn.set {listed : Array Bool} (d : Dn md ops listed) {i : Nat} (hi : i ∈ Region.ready md ops listed) : Dn md ops (listed.setIfInBounds i true) := by
  intro j oj hj hl e he hb
  by_cases hij : i = j
  · subst hij
    obtain ⟨_, o, ho, hall⟩ := mem_ready.1 hi
    obtain rfl : o = oj := Option.some.inj (ho.symm.trans hj)
    exact getD_set_true (hall e he hb)
  · rw [getD_set_ne false hij] at hl
    exact getD_set_true (d j oj hj hl e he hb)
theorem Dn.none (n : Nat) : Dn md ops (Array.replicate n false) := by
  intro j oj hj hl
  by_cases h : j < n <;> simp [h] at hl
def Cz (C : World → Prop) (z : Nat) (listed : Array Bool) (w : World) : Prop := listed.getD z false = false → C w
def wpAnyZ (P : Program) (md : Region.Mode) (ops : Array Oper) (C : World → Prop) (z : Nat) (Q : Exit → Act → World → Prop) : Nat → Array Bool → Act → World → Prop
  | 0, listed, a, w => Cz C z listed w ∧ Region.ready md ops listed = [] ∧ Q .normal a w
  | fuel + 1, listed, a, w => Cz C z listed w ∧ (Region.ready md ops listed = [] → Q .normal a w) ∧ ∀ i ∈ Region.ready md ops listed, wpOp P ops Q i (wpAnyZ P md ops C z Q fuel (listed.setIfInBounds i true)) a w
theorem wpAny_of_Z : ∀ (fuel : Nat) (listed : Array Bool) (a : Act) (w : World), wpAnyZ P md ops C z Q fuel listed a w → wpAny P md ops Q fuel listed a w
  | 0, _, _, _, h => ⟨h.2.1, h.2.2⟩
  | fuel + 1, _, _, _, h => ⟨h.2.1, fun i hi => wpOp_mono (fun a' w' => wpAny_of_Z fuel _ a' w') (h.2.2 i hi)⟩
/-- does z wait for i? -/
def waitsB (md : Region.Mode) (ops : Array Oper) (z i : Nat) : Bool := match ops[z]? with | none => true | some oz => oz.after.any fun e => Region.binds md e && e.on == i
theorem waits_not {i : Nat} {listed : Array Bool} (d : Dn md ops listed) (hsz : listed.size = ops.size) (h : waitsB md ops z i = true) (hi : i ∈ Region.ready md ops listed) : listed.getD z false = false := by
  cases hz : ops[z]? with
  | none =>
    have : ¬ z < ops.size := fun h => by rw [Array.getElem?_eq_getElem h] at hz; cases hz
    have : ¬ z < listed.size := by omega
    simp [this]
  | some oz =>
    unfold waitsB at h
    rw [hz] at h
    obtain ⟨e, he, hb⟩ := Array.any_eq_true'.1 h
    simp only [Bool.and_eq_true, beq_iff_eq] at hb
    cases hl : listed.getD z false with
    | false => rfl
    | true =>
      have h1 := d z oz hz hl e he hb.1
      have h0 := (mem_ready.1 hi).1
      rw [hb.2] at h1
      rcases Nat.lt_or_ge i listed.size with h' | h'
      · simp [h'] at h0 h1; rw [h0] at h1; cases h1
      · simp [Array.getElem?_eq_none h'] at h1
/-- u: is the class asked for? -/
theorem wpAnyZ_first {i : Nat} {oi : Oper} {v : Value} (u : Bool) (hi : ops[i]? = some oi) (hsel : ∀ (j : Nat) (o : Oper) cs b, ops[j]? = some o → o.op ≠ .select cs b)
    (hQ : ∀ c a w, Q (.panic c) (a.put oi.dst v) w → Q (.panic c) a w) (hu : u = true → waitsB md ops z i = true) (hiz : i ≠ z) :
    ∀ (fuel : Nat) (listed : Array Bool) (a : Act) (w : World), Dn md ops listed → listed.size = ops.size →
      (∀ j oj, ops[j]? = some oj → j ≠ i → listed.getD j true = false → (∀ e ∈ oj.after, Region.binds md e = true → e.on ≠ i) → oi.apart ops oj = true) →
      i ∈ Region.ready md ops listed → YieldsC P ops (fun w => u = true → C w) oi v a →
      wpAnyZ P md ops C z Q fuel (listed.setIfInBounds i true) (a.put oi.dst v) w → wpAnyZ P md ops C z Q (fuel + 1) listed a w := by
  intro fuel
  induction fuel with
  | zero =>
    intro listed a w d hsz _ hr hy H
    have hc : Cz C z listed w := fun h => H.1 (by rw [getD_set_ne false hiz]; exact h)
    refine ⟨hc, fun h => (by rw [h] at hr; cases hr), fun j hj => ?_⟩
    by_cases hji : j = i
    · subst hji; exact hy.wpOp hi (fun h => hc (waits_not d hsz (hu h) hr)) H
    · have := ready_mono hj hji
      rw [H.2.1] at this
      cases this
  | succ fuel ih =>
    intro listed a w d hsz hfree hr hy H
    have hc : Cz C z listed w := fun h => H.1 (by rw [getD_set_ne false hiz]; exact h)
    refine ⟨hc, fun h => (by rw [h] at hr; cases hr), fun j hj => ?_⟩
    by_cases hji : j = i
    · subst hji; exact hy.wpOp hi (fun h => hc (waits_not d hsz (hu h) hr)) H
    · have h1 := H.2.2 j (ready_mono hj hji)
      obtain ⟨hjun, oj, hoj, hall⟩ := mem_ready.1 hj
      have hnot : ∀ e ∈ oj.after, Region.binds md e = true → e.on ≠ i := fun e he hb heq => by
        have h1 := hall e he hb
        have h0 := (mem_ready.1 hr).1
        rw [heq] at h1
        rcases Nat.lt_or_ge i listed.size with h' | h'
        · simp [h'] at h0 h1; rw [h0] at h1; cases h1
        · simp [Array.getElem?_eq_none h'] at h1
      have h2 := wpOp_putC hoj (hfree j oj hoj hji hjun hnot) (fun cs b => hsel i oi cs b hi) (fun cs b => hsel j oj cs b hoj) hQ hy h1
      have hfree' : ∀ k ok, ops[k]? = some ok → k ≠ i → (listed.setIfInBounds j true).getD k true = false →
          (∀ e ∈ ok.after, Region.binds md e = true → e.on ≠ i) → oi.apart ops ok = true := fun k ok hk hki hun hno => by
        refine hfree k ok hk hki ?_ hno
        by_cases hjk : j = k
        · subst hjk; exact hjun
        · rw [getD_set_ne true hjk] at hun; exact hun
      refine wpOp_mono (fun a' w' h3 => ih (listed.setIfInBounds j true) a' w' (d.set hj) (by simpa using hsz) hfree' (ready_mono hr (Ne.symm hji)) h3.1 ?_) h2
      rw [Array.setIfInBounds_comm _ _ hji]
      exact h3.2
/-- a plan: 0: yields in every world; 1: in every world of the class; 2: done where it stands, nothing else may come up there -/
def planZ (md : Region.Mode) (ops : Array Oper) (z : Nat) : List (Nat × Nat) → Array Bool → Bool
  | [], listed => (Region.ready md ops listed).isEmpty
  | (i, k) :: rest, listed => (if k = 2 then Region.ready md ops listed == [i] else (Region.ready md ops listed).contains i && Region.free md ops listed i && decide (i ≠ z) && (decide (k = 0) || waitsB md ops z i)) && planZ md ops z rest (listed.setIfInBounds i true)
def allZ (ops : Array Oper) (z : Nat) (plan : List (Nat × Nat)) : Bool := Region.noSelect ops && plan.length == ops.size && planZ .any ops z plan (Array.replicate ops.size false)
def oneZ (P : Program) (ops : Array Oper) (C : World → Prop) (Q : Exit → Act → World → Prop) (k : Nat) (on : Bool) (o : Oper) (K : Act → World → Prop) (a : Act) (w : World) : Prop :=
  if Region.wanted o (yielded ops a.tmps) = true then
    if k = 2 then o.wp P a w (fun a' w' => (on = true → C w') ∧ K a' w') Q else ∃ v, (∀ W, (k ≠ 0 → C W) → upon W v ((execOp a.eval o).run P W)) ∧ K (a.put o.dst v) w
  else K (a.put o.dst undef) w
def wpPlanZ (P : Program) (ops : Array Oper) (C : World → Prop) (z : Nat) (Q : Exit → Act → World → Prop) : Bool → List (Nat × Nat) → Act → World → Prop
  | _, [], a, w => Q .normal a w
  | on, (i, k) :: rest, a, w => ∃ o, ops[i]? = some o ∧ oneZ P ops C Q k (on && i != z) o (wpPlanZ P ops C z Q (on && i != z) rest) a w
theorem wpAnyZ_plan (hs : Region.noSelect ops = true) (hQ : ∀ c a w d v, Q (.panic c) (a.put d v) w → Q (.panic c) a w) : ∀ (plan : List (Nat × Nat)) (on : Bool) (listed : Array Bool) (a : Act) (w : World), Dn md ops listed → listed.size = ops.size → (on = false → listed.getD z false = true) → planZ md ops z plan listed = true → (on = true → C w) → wpPlanZ P ops C z Q on plan a w → wpAnyZ P md ops C z Q plan.length listed a w
  | [], on, listed, a, w, d, hsz, ho, hB, hw, h => ⟨fun hz => (by cases on with | true => exact hw rfl | false => rw [ho rfl] at hz; cases hz), by simpa [planZ] using hB, h⟩
  | (i, k) :: rest, on, listed, a, w, d, hsz, hon, hB, hw, ⟨o, ho, h⟩ => by
    simp only [planZ, Bool.and_eq_true] at hB
    obtain ⟨hB1, hB2⟩ := hB
    have ih := wpAnyZ_plan hs hQ rest (on && i != z) (listed.setIfInBounds i true)
    have hcz : Cz C z listed w := fun hz => (by cases on with | true => exact hw rfl | false => rw [hon rfl] at hz; cases hz)
    have hon' : ∀ (hl : i < ops.size), (on && i != z) = false → (listed.setIfInBounds i true).getD z false = true := by
      intro hl h
      by_cases e : i = z
      · subst e; have : i < listed.size := by omega
        simp [this]
      · have : on = false := by simpa [e] using h
        exact getD_set_true (hon this)
    have hl : i < ops.size := (Array.getElem?_eq_some_iff.1 ho).1
    unfold oneZ at h
    by_cases hk : k = 2
    · simp only [hk, if_true, beq_iff_eq] at hB1 h
      have hm : i ∈ Region.ready md ops listed := by rw [hB1]; exact List.mem_singleton.2 rfl
      refine ⟨hcz, fun h0 => (by rw [hB1] at h0; cases h0), fun j hj => ?_⟩
      rw [hB1, List.mem_singleton] at hj
      subst hj
      unfold wpOp
      simp only [ho]
      by_cases hwt : Region.wanted o (yielded ops a.tmps) = true
      · simp only [hwt, if_true] at h ⊢
        exact .inl (Oper.wp_mono (fun a' w' h' => ih a' w' (d.set hm) (by simpa using hsz) (hon' hl) hB2 h'.1 h'.2) h)
      · simp only [hwt] at h ⊢
        exact ih _ _ (d.set hm) (by simpa using hsz) (hon' hl) hB2 (fun h => hw (by simp only [Bool.and_eq_true] at h; exact h.1)) h
    · simp only [hk, if_false, Bool.and_eq_true] at hB1 h
      obtain ⟨⟨⟨hr, hf⟩, hiz⟩, hwz⟩ := hB1
      have hiz' : i ≠ z := of_decide_eq_true hiz
      have hm : i ∈ Region.ready md ops listed := by simpa using hr
      have hu : (decide (k ≠ 0)) = true → waitsB md ops z i = true := by
        intro hk0
        have : k ≠ 0 := of_decide_eq_true hk0
        simpa [this] using hwz
      have hw' : (on && i != z) = true → C w := fun h => hw (by simp only [Bool.and_eq_true] at h; exact h.1)
      by_cases hwt : Region.wanted o (yielded ops a.tmps) = true
      · simp only [hwt, if_true] at h
        obtain ⟨v, hy, hK⟩ := h
        exact wpAnyZ_first (decide (k ≠ 0)) ho (Region.noSelect_spec hs) (fun c a w => hQ c a w _ _) hu hiz' rest.length listed a w d hsz (Region.free_spec ho hf) hm (.inl ⟨hwt, fun W hW => hy W (fun hk0 => hW (decide_eq_true hk0))⟩) (ih _ _ (d.set hm) (by simpa using hsz) (hon' hl) hB2 hw' hK)
      · simp only [hwt] at h
        exact wpAnyZ_first (decide (k ≠ 0)) ho (Region.noSelect_spec hs) (fun c a w => hQ c a w _ _) hu hiz' rest.length listed a w d hsz (Region.free_spec ho hf) hm (.inr ⟨by simpa using hwt, rfl⟩) (ih _ _ (d.set hm) (by simpa using hsz) (hon' hl) hB2 hw' h)
theorem wp_region_phase {id : Nat} {a : Act} {w : World} (z : Nat) (plan : List (Nat × Nat)) (C : World → Prop) (hm : P.follows .mixedOrders = true) (hB : allZ ops z plan = true) (hQ : ∀ c a w d v, Q (.panic c) (a.put d v) w → Q (.panic c) a w)
    (hC : C w.drew) (h : wpPlanZ P ops C z Q true plan a w.drew) : (Code.region id ops true).wp P Q a w := by
  simp only [allZ, Bool.and_eq_true, beq_iff_eq] at hB
  obtain ⟨⟨h1, h2⟩, h3⟩ := hB
  have := wpAny_of_Z _ _ _ _ (wpAnyZ_plan (md := .any) h1 hQ plan true _ a w.drew (Dn.none _) (by simp) (fun h => by cases h) h3 (fun _ => hC) h)
  rw [h2] at this
  exact wp_region_any hm this
theorem wpPlanZ_nil {on : Bool} {a : Act} {w : World} (h : Q .normal a w) : wpPlanZ P ops C z Q on [] a w := by cases on <;> exact h
theorem wpPlanZ_free {on : Bool} {i : Nat} {rest : List (Nat × Nat)} {a : Act} {w : World} {o : Oper} {v : Value} (ho : ops[i]? = some o) (hwt : Region.wanted o (yielded ops a.tmps) = true) (hv : ∀ W, (execOp a.eval o).run P W = .ok (.value v) W) (h : ∀ K : Act → Prop, (∀ a', wpPlanZ P ops C z Q (on && i != z) rest a' w → K a') → K (a.put o.dst v)) : wpPlanZ P ops C z Q on ((i, 0) :: rest) a w :=
  ⟨o, ho, by unfold oneZ; rw [if_pos hwt, if_neg (by simp)]; exact ⟨v, fun W _ => by rw [hv W]; exact ⟨rfl, rfl⟩, h _ (fun _ h => h)⟩⟩
theorem wpPlanZ_quiet {on : Bool} {i : Nat} {rest : List (Nat × Nat)} {a : Act} {w : World} {o : Oper} {v : Value} (ho : ops[i]? = some o) (hwt : Region.wanted o (yielded ops a.tmps) = true) (hv : ∀ W, C W → (execOp a.eval o).run P W = .ok (.value v) W) (h : ∀ K : Act → Prop, (∀ a', wpPlanZ P ops C z Q (on && i != z) rest a' w → K a') → K (a.put o.dst v)) : wpPlanZ P ops C z Q on ((i, 1) :: rest) a w :=
  ⟨o, ho, by unfold oneZ; rw [if_pos hwt, if_neg (by simp)]; exact ⟨v, fun W hW => by rw [hv W (hW (by simp))]; exact ⟨rfl, rfl⟩, h _ (fun _ h => h)⟩⟩
theorem wpPlanZ_serial {on : Bool} {i : Nat} {rest : List (Nat × Nat)} {a : Act} {w : World} {o : Oper} (ho : ops[i]? = some o) (hwt : Region.wanted o (yielded ops a.tmps) = true) (h : ∀ K : Act → World → Prop, (∀ a' w', ((on && i != z) = true → C w') → wpPlanZ P ops C z Q (on && i != z) rest a' w' → K a' w') → o.wp P a w K Q) : wpPlanZ P ops C z Q on ((i, 2) :: rest) a w :=
  ⟨o, ho, by unfold oneZ; rw [if_pos hwt, if_pos rfl]; exact h _ (fun a' w' h1 h2 => ⟨h1, h2⟩)⟩
end
end Go.Proofs.YtkehhlibkebomaaDoor
/-
  Package opt: which registers are still asked for.
-/
namespace Go.Proofs.YtkehhlibkebomaaDoor
open Go.RowKit Go.Maps
open Num
set_option linter.unusedVariables false
end Go.Proofs.YtkehhlibkebomaaDoor
/-
  As Phase, where two operations may come up at one place: both orders are walked.
-/
namespace Go.Proofs.YtkehhlibkebomaaDoor
set_option linter.unusedVariables false
inductive PT where
  | nil
  | step (i k : Nat) (rest : PT)
  | fork (i j : Nat) (r s : PT)
section
variable {P : Program} {ops : Array Oper} {Q : Exit → Act → World → Prop} {md : Region.Mode} {C : World → Prop} {z : Nat}
def planT (md : Region.Mode) (ops : Array Oper) (z : Nat) : PT → Nat → Array Bool → Bool
  | .nil, n, listed => (Region.ready md ops listed).isEmpty && n == 0
  | .step _ _ _, 0, _ => false
  | .step i k rest, n + 1, listed => (if k = 2 then Region.ready md ops listed == [i] else (Region.ready md ops listed).contains i && Region.free md ops listed i && decide (i ≠ z) && (decide (k = 0) || waitsB md ops z i)) && planT md ops z rest n (listed.setIfInBounds i true)
  | .fork _ _ _ _, 0, _ => false
  | .fork i j r s, n + 1, listed => Region.ready md ops listed == [i, j] && planT md ops z r n (listed.setIfInBounds i true) && planT md ops z s n (listed.setIfInBounds j true)
def allT (ops : Array Oper) (z : Nat) (t : PT) : Bool := Region.noSelect ops && planT .any ops z t ops.size (Array.replicate ops.size false)
def wpT (P : Program) (ops : Array Oper) (C : World → Prop) (z : Nat) (Q : Exit → Act → World → Prop) : Bool → PT → Act → World → Prop
  | _, .nil, a, w => Q .normal a w
  | on, .step i k rest, a, w => ∃ o, ops[i]? = some o ∧ oneZ P ops C Q k (on && i != z) o (wpT P ops C z Q (on && i != z) rest) a w
  | on, .fork i j r s, a, w => (∃ o, ops[i]? = some o ∧ oneZ P ops C Q 2 (on && i != z) o (wpT P ops C z Q (on && i != z) r) a w) ∧ ∃ o, ops[j]? = some o ∧ oneZ P ops C Q 2 (on && j != z) o (wpT P ops C z Q (on && j != z) s) a w
/-- one operation that is done where it stands -/
theorem wpOp_serial {i : Nat} {o : Oper} {on : Bool} {K L : Act → World → Prop} {a : Act} {w : World} (ho : ops[i]? = some o) (hw : on = true → C w) (h : oneZ P ops C Q 2 on o K a w) (hL : ∀ a' w', (on = true → C w') → K a' w' → L a' w') : wpOp P ops Q i L a w := by
  unfold oneZ at h
  unfold wpOp
  simp only [ho]
  by_cases hwt : Region.wanted o (yielded ops a.tmps) = true
  · simp only [hwt, if_true] at h ⊢
    exact .inl (Oper.wp_mono (fun a' w' h' => hL a' w' h'.1 h'.2) h)
  · simp only [hwt] at h ⊢
    exact hL _ _ hw h
theorem wpAnyZ_tree (hs : Region.noSelect ops = true) (hQ : ∀ c a w d v, Q (.panic c) (a.put d v) w → Q (.panic c) a w) : ∀ (t : PT) (n : Nat) (on : Bool) (listed : Array Bool) (a : Act) (w : World), Dn md ops listed → listed.size = ops.size → (on = false → listed.getD z false = true) → planT md ops z t n listed = true → (on = true → C w) → wpT P ops C z Q on t a w → wpAnyZ P md ops C z Q n listed a w
  | .nil, n, on, listed, a, w, d, hsz, ho, hB, hw, h => by
    simp only [planT, Bool.and_eq_true, beq_iff_eq] at hB
    obtain ⟨h1, rfl⟩ := hB
    exact ⟨fun hz => (by cases on with | true => exact hw rfl | false => rw [ho rfl] at hz; cases hz), by simpa using h1, h⟩
  | .step i k rest, 0, _, _, _, _, _, _, _, hB, _, _ => by simp [planT] at hB
  | .fork i j r s, 0, _, _, _, _, _, _, _, hB, _, _ => by simp [planT] at hB
  | .fork i j r s, n + 1, on, listed, a, w, d, hsz, hon, hB, hw, ⟨⟨oi, hoi, hi⟩, ⟨oj, hoj, hj⟩⟩ => by
    simp only [planT, Bool.and_eq_true, beq_iff_eq] at hB
    obtain ⟨⟨hB1, hB2⟩, hB3⟩ := hB
    have hcz : Cz C z listed w := fun hz => (by cases on with | true => exact hw rfl | false => rw [hon rfl] at hz; cases hz)
    have hon' : ∀ (i : Nat) (hl : i < ops.size), (on && i != z) = false → (listed.setIfInBounds i true).getD z false = true := by
      intro i hl h
      by_cases e : i = z
      · subst e; have : i < listed.size := by omega
        simp [this]
      · have : on = false := by simpa [e] using h
        exact getD_set_true (hon this)
    have hw' : ∀ i : Nat, (on && i != z) = true → C w := fun i h => hw (by simp only [Bool.and_eq_true] at h; exact h.1)
    have hmi : i ∈ Region.ready md ops listed := by rw [hB1]; simp
    have hmj : j ∈ Region.ready md ops listed := by rw [hB1]; simp
    refine ⟨hcz, fun h0 => (by rw [hB1] at h0; cases h0), fun x hx => ?_⟩
    rw [hB1] at hx
    simp only [List.mem_cons, List.not_mem_nil, or_false] at hx
    rcases hx with rfl | rfl
    · exact wpOp_serial hoi (hw' _) hi (fun a' w' h1 h2 => wpAnyZ_tree hs hQ r n (on && x != z) (listed.setIfInBounds x true) a' w' (d.set hmi) (by simpa using hsz) (hon' x (Array.getElem?_eq_some_iff.1 hoi).1) hB2 h1 h2)
    · exact wpOp_serial hoj (hw' _) hj (fun a' w' h1 h2 => wpAnyZ_tree hs hQ s n (on && x != z) (listed.setIfInBounds x true) a' w' (d.set hmj) (by simpa using hsz) (hon' x (Array.getElem?_eq_some_iff.1 hoj).1) hB3 h1 h2)
  | .step i k rest, n + 1, on, listed, a, w, d, hsz, hon, hB, hw, ⟨o, ho, h⟩ => by
    simp only [planT, Bool.and_eq_true] at hB
    obtain ⟨hB1, hB2⟩ := hB
    have hcz : Cz C z listed w := fun hz => (by cases on with | true => exact hw rfl | false => rw [hon rfl] at hz; cases hz)
    have hl : i < ops.size := (Array.getElem?_eq_some_iff.1 ho).1
    have hon' : (on && i != z) = false → (listed.setIfInBounds i true).getD z false = true := by
      intro h
      by_cases e : i = z
      · subst e; have : i < listed.size := by omega
        simp [this]
      · have : on = false := by simpa [e] using h
        exact getD_set_true (hon this)
    have hw' : (on && i != z) = true → C w := fun h => hw (by simp only [Bool.and_eq_true] at h; exact h.1)
    by_cases hk : k = 2
    · subst hk
      simp only [if_true, beq_iff_eq] at hB1
      have hm : i ∈ Region.ready md ops listed := by rw [hB1]; exact List.mem_singleton.2 rfl
      refine ⟨hcz, fun h0 => (by rw [hB1] at h0; cases h0), fun j hj => ?_⟩
      rw [hB1, List.mem_singleton] at hj
      subst hj
      exact wpOp_serial ho hw' h (fun a' w' h1 h2 => wpAnyZ_tree hs hQ rest n (on && j != z) (listed.setIfInBounds j true) a' w' (d.set hm) (by simpa using hsz) hon' hB2 h1 h2)
    · unfold oneZ at h
      simp only [hk, if_false, Bool.and_eq_true] at hB1 h
      obtain ⟨⟨⟨hr, hf⟩, hiz⟩, hwz⟩ := hB1
      have hiz' : i ≠ z := of_decide_eq_true hiz
      have hm : i ∈ Region.ready md ops listed := by simpa using hr
      have hu : (decide (k ≠ 0)) = true → waitsB md ops z i = true := by
        intro hk0
        have : k ≠ 0 := of_decide_eq_true hk0
        simpa [this] using hwz
      have ih := fun a' => wpAnyZ_tree hs hQ rest n (on && i != z) (listed.setIfInBounds i true) a' w (d.set hm) (by simpa using hsz) hon' hB2 hw'
      by_cases hwt : Region.wanted o (yielded ops a.tmps) = true
      · simp only [hwt, if_true] at h
        obtain ⟨v, hy, hK⟩ := h
        exact wpAnyZ_first (decide (k ≠ 0)) ho (Region.noSelect_spec hs) (fun c a w => hQ c a w _ _) hu hiz' n listed a w d hsz (Region.free_spec ho hf) hm (.inl ⟨hwt, fun W hW => hy W (fun hk0 => hW (decide_eq_true hk0))⟩) (ih _ hK)
      · simp only [hwt] at h
        exact wpAnyZ_first (decide (k ≠ 0)) ho (Region.noSelect_spec hs) (fun c a w => hQ c a w _ _) hu hiz' n listed a w d hsz (Region.free_spec ho hf) hm (.inr ⟨by simpa using hwt, rfl⟩) (ih _ h)
theorem wp_region_tree {id : Nat} {a : Act} {w : World} (z : Nat) (t : PT) (C : World → Prop) (hm : P.follows .mixedOrders = true) (hB : allT ops z t = true) (hQ : ∀ c a w d v, Q (.panic c) (a.put d v) w → Q (.panic c) a w)
    (hC : C w.drew) (h : wpT P ops C z Q true t a w.drew) : (Code.region id ops true).wp P Q a w := by
  simp only [allT, Bool.and_eq_true] at hB
  exact wp_region_any hm (wpAny_of_Z _ _ _ _ (wpAnyZ_tree (md := .any) hB.1 hQ t ops.size true _ a w.drew (Dn.none _) (by simp) (fun h => by cases h) hB.2 (fun _ => hC) h))
theorem wpT_nil {on : Bool} {a : Act} {w : World} (h : Q .normal a w) : wpT P ops C z Q on .nil a w := by cases on <;> exact h
theorem wpT_free {on : Bool} {i : Nat} {rest : PT} {a : Act} {w : World} {o : Oper} {v : Value} (ho : ops[i]? = some o) (hwt : Region.wanted o (yielded ops a.tmps) = true) (hv : ∀ W, (execOp a.eval o).run P W = .ok (.value v) W) (h : ∀ K : Act → Prop, (∀ a', wpT P ops C z Q (on && i != z) rest a' w → K a') → K (a.put o.dst v)) : wpT P ops C z Q on (.step i 0 rest) a w :=
  ⟨o, ho, by unfold oneZ; rw [if_pos hwt, if_neg (by simp)]; exact ⟨v, fun W _ => by rw [hv W]; exact ⟨rfl, rfl⟩, h _ (fun _ h => h)⟩⟩
theorem wpT_quiet {on : Bool} {i : Nat} {rest : PT} {a : Act} {w : World} {o : Oper} {v : Value} (ho : ops[i]? = some o) (hwt : Region.wanted o (yielded ops a.tmps) = true) (hv : ∀ W, C W → (execOp a.eval o).run P W = .ok (.value v) W) (h : ∀ K : Act → Prop, (∀ a', wpT P ops C z Q (on && i != z) rest a' w → K a') → K (a.put o.dst v)) : wpT P ops C z Q on (.step i 1 rest) a w :=
  ⟨o, ho, by unfold oneZ; rw [if_pos hwt, if_neg (by simp)]; exact ⟨v, fun W hW => by rw [hv W (hW (by simp))]; exact ⟨rfl, rfl⟩, h _ (fun _ h => h)⟩⟩
theorem wpT_serial {on : Bool} {i : Nat} {rest : PT} {a : Act} {w : World} {o : Oper} (ho : ops[i]? = some o) (hwt : Region.wanted o (yielded ops a.tmps) = true) (h : ∀ K : Act → World → Prop, (∀ a' w', ((on && i != z) = true → C w') → wpT P ops C z Q (on && i != z) rest a' w' → K a' w') → o.wp P a w K Q) : wpT P ops C z Q on (.step i 2 rest) a w :=
  ⟨o, ho, by unfold oneZ; rw [if_pos hwt, if_pos rfl]; exact h _ (fun a' w' h1 h2 => ⟨h1, h2⟩)⟩
theorem wpT_fork {on : Bool} {i j : Nat} {r s : PT} {a : Act} {w : World} {o p : Oper} (ho : ops[i]? = some o) (hwt : Region.wanted o (yielded ops a.tmps) = true) (hp : ops[j]? = some p) (hwt' : Region.wanted p (yielded ops a.tmps) = true)
    (h : ∀ K : Act → World → Prop, (∀ a' w', ((on && i != z) = true → C w') → wpT P ops C z Q (on && i != z) r a' w' → K a' w') → o.wp P a w K Q)
    (g : ∀ K : Act → World → Prop, (∀ a' w', ((on && j != z) = true → C w') → wpT P ops C z Q (on && j != z) s a' w' → K a' w') → p.wp P a w K Q) : wpT P ops C z Q on (.fork i j r s) a w :=
  ⟨⟨o, ho, by unfold oneZ; rw [if_pos hwt, if_pos rfl]; exact h _ (fun a' w' h1 h2 => ⟨h1, h2⟩)⟩, ⟨p, hp, by unfold oneZ; rw [if_pos hwt', if_pos rfl]; exact g _ (fun a' w' h1 h2 => ⟨h1, h2⟩)⟩⟩
end
end Go.Proofs.YtkehhlibkebomaaDoor
/-
  Package opt: an op that is passed.
-/
namespace Go.Proofs.YtkehhlibkebomaaDoor
open Go.RowKit Go.Maps
open Num
set_option linter.unusedVariables false
end Go.Proofs.YtkehhlibkebomaaDoor
