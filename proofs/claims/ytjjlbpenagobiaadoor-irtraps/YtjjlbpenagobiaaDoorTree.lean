/-
  As Phase, where two operations may come up at one place: both orders are walked.
-/
import Derived.Test.YtjjlbpenagobiaaDoorPhase
namespace Go.Proofs.YtjjlbpenagobiaaDoor
set_option linter.unusedVariables false
inductive PT where
  | nil
  | step (i k : Nat) (rest : PT)
  | fork (i j : Nat) (r s : PT)
section
variable {P : Program} {ops : Array Oper} {Q : Exit → Act → World → Prop} {md : Region.Mode} {C : World → Prop} {z : Nat}
def planT (md : Region.Mode) (ops : Array Oper) (z : Nat) : PT → Nat → Array Bool → Bool
  | .nil, n, listed => (Region.ready md ops listed).isEmpty && n == 0
  | .step _ _ _, 0, _ => false
  | .step i k rest, n + 1, listed => (if k = 2 then Region.ready md ops listed == [i] else (Region.ready md ops listed).contains i && Region.free md ops listed i && decide (i ≠ z) && (decide (k = 0) || waitsB md ops z i)) && planT md ops z rest n (listed.setIfInBounds i true)
  | .fork _ _ _ _, 0, _ => false
  | .fork i j r s, n + 1, listed => Region.ready md ops listed == [i, j] && planT md ops z r n (listed.setIfInBounds i true) && planT md ops z s n (listed.setIfInBounds j true)
def allT (ops : Array Oper) (z : Nat) (t : PT) : Bool := Region.noSelect ops && planT .any ops z t ops.size (Array.replicate ops.size false)
def wpT (P : Program) (ops : Array Oper) (C : World → Prop) (z : Nat) (Q : Exit → Act → World → Prop) : Bool → PT → Act → World → Prop
  | _, .nil, a, w => Q .normal a w
  | on, .step i k rest, a, w => ∃ o, ops[i]? = some o ∧ oneZ P ops C Q k (on && i != z) o (wpT P ops C z Q (on && i != z) rest) a w
  | on, .fork i j r s, a, w => (∃ o, ops[i]? = some o ∧ oneZ P ops C Q 2 (on && i != z) o (wpT P ops C z Q (on && i != z) r) a w) ∧ ∃ o, ops[j]? = some o ∧ oneZ P ops C Q 2 (on && j != z) o (wpT P ops C z Q (on && j != z) s) a w
/-- one operation that is done where it stands -/
theorem wpOp_serial {i : Nat} {o : Oper} {on : Bool} {K L : Act → World → Prop} {a : Act} {w : World} (ho : ops[i]? = some o) (hw : on = true → C w) (h : oneZ P ops C Q 2 on o K a w) (hL : ∀ a' w', (on = true → C w') → K a' w' → L a' w') : wpOp P ops Q i L a w := by
  unfold oneZ at h
  unfold wpOp
  simp only [ho]
  by_cases hwt : Region.wanted o (yielded ops a.tmps) = true
  · simp only [hwt, if_true] at h ⊢
    exact .inl (Oper.wp_mono (fun a' w' h' => hL a' w' h'.1 h'.2) h)
  · simp only [hwt] at h ⊢
    exact hL _ _ hw h
theorem wpAnyZ_tree (hs : Region.noSelect ops = true) (hQ : ∀ c a w d v, Q (.panic c) (a.put d v) w → Q (.panic c) a w) : ∀ (t : PT) (n : Nat) (on : Bool) (listed : Array Bool) (a : Act) (w : World), Dn md ops listed → listed.size = ops.size → (on = false → listed.getD z false = true) → planT md ops z t n listed = true → (on = true → C w) → wpT P ops C z Q on t a w → wpAnyZ P md ops C z Q n listed a w
  | .nil, n, on, listed, a, w, d, hsz, ho, hB, hw, h => by
    simp only [planT, Bool.and_eq_true, beq_iff_eq] at hB
    obtain ⟨h1, rfl⟩ := hB
    exact ⟨fun hz => (by cases on with | true => exact hw rfl | false => rw [ho rfl] at hz; cases hz), by simpa using h1, h⟩
  | .step i k rest, 0, _, _, _, _, _, _, _, hB, _, _ => by simp [planT] at hB
  | .fork i j r s, 0, _, _, _, _, _, _, _, hB, _, _ => by simp [planT] at hB
  | .fork i j r s, n + 1, on, listed, a, w, d, hsz, hon, hB, hw, ⟨⟨oi, hoi, hi⟩, ⟨oj, hoj, hj⟩⟩ => by
    simp only [planT, Bool.and_eq_true, beq_iff_eq] at hB
    obtain ⟨⟨hB1, hB2⟩, hB3⟩ := hB
    have hcz : Cz C z listed w := fun hz => (by cases on with | true => exact hw rfl | false => rw [hon rfl] at hz; cases hz)
    have hon' : ∀ (i : Nat) (hl : i < ops.size), (on && i != z) = false → (listed.setIfInBounds i true).getD z false = true := by
      intro i hl h
      by_cases e : i = z
      · subst e; have : i < listed.size := by omega
        simp [this]
      · have : on = false := by simpa [e] using h
        exact getD_set_true (hon this)
    have hw' : ∀ i : Nat, (on && i != z) = true → C w := fun i h => hw (by simp only [Bool.and_eq_true] at h; exact h.1)
    have hmi : i ∈ Region.ready md ops listed := by rw [hB1]; simp
    have hmj : j ∈ Region.ready md ops listed := by rw [hB1]; simp
    refine ⟨hcz, fun h0 => (by rw [hB1] at h0; cases h0), fun x hx => ?_⟩
    rw [hB1] at hx
    simp only [List.mem_cons, List.not_mem_nil, or_false] at hx
    rcases hx with rfl | rfl
    · exact wpOp_serial hoi (hw' _) hi (fun a' w' h1 h2 => wpAnyZ_tree hs hQ r n (on && x != z) (listed.setIfInBounds x true) a' w' (d.set hmi) (by simpa using hsz) (hon' x (Array.getElem?_eq_some_iff.1 hoi).1) hB2 h1 h2)
    · exact wpOp_serial hoj (hw' _) hj (fun a' w' h1 h2 => wpAnyZ_tree hs hQ s n (on && x != z) (listed.setIfInBounds x true) a' w' (d.set hmj) (by simpa using hsz) (hon' x (Array.getElem?_eq_some_iff.1 hoj).1) hB3 h1 h2)
  | .step i k rest, n + 1, on, listed, a, w, d, hsz, hon, hB, hw, ⟨o, ho, h⟩ => by
    simp only [planT, Bool.and_eq_true] at hB
    obtain ⟨hB1, hB2⟩ := hB
    have hcz : Cz C z listed w := fun hz => (by cases on with | true => exact hw rfl | false => rw [hon rfl] at hz; cases hz)
    have hl : i < ops.size := (Array.getElem?_eq_some_iff.1 ho).1
    have hon' : (on && i != z) = false → (listed.setIfInBounds i true).getD z false = true := by
      intro h
      by_cases e : i = z
      · subst e; have : i < listed.size := by omega
        simp [this]
      · have : on = false := by simpa [e] using h
        exact getD_set_true (hon this)
    have hw' : (on && i != z) = true → C w := fun h => hw (by simp only [Bool.and_eq_true] at h; exact h.1)
    by_cases hk : k = 2
    · subst hk
      simp only [if_true, beq_iff_eq] at hB1
      have hm : i ∈ Region.ready md ops listed := by rw [hB1]; exact List.mem_singleton.2 rfl
      refine ⟨hcz, fun h0 => (by rw [hB1] at h0; cases h0), fun j hj => ?_⟩
      rw [hB1, List.mem_singleton] at hj
      subst hj
      exact wpOp_serial ho hw' h (fun a' w' h1 h2 => wpAnyZ_tree hs hQ rest n (on && j != z) (listed.setIfInBounds j true) a' w' (d.set hm) (by simpa using hsz) hon' hB2 h1 h2)
    · unfold oneZ at h
      simp only [hk, if_false, Bool.and_eq_true] at hB1 h
      obtain ⟨⟨⟨hr, hf⟩, hiz⟩, hwz⟩ := hB1
      have hiz' : i ≠ z := of_decide_eq_true hiz
      have hm : i ∈ Region.ready md ops listed := by simpa using hr
      have hu : (decide (k ≠ 0)) = true → waitsB md ops z i = true := by
        intro hk0
        have : k ≠ 0 := of_decide_eq_true hk0
        simpa [this] using hwz
      have ih := fun a' => wpAnyZ_tree hs hQ rest n (on && i != z) (listed.setIfInBounds i true) a' w (d.set hm) (by simpa using hsz) hon' hB2 hw'
      by_cases hwt : Region.wanted o (yielded ops a.tmps) = true
      · simp only [hwt, if_true] at h
        obtain ⟨v, hy, hK⟩ := h
        exact wpAnyZ_first (decide (k ≠ 0)) ho (Region.noSelect_spec hs) (fun c a w => hQ c a w _ _) hu hiz' n listed a w d hsz (Region.free_spec ho hf) hm (.inl ⟨hwt, fun W hW => hy W (fun hk0 => hW (decide_eq_true hk0))⟩) (ih _ hK)
      · simp only [hwt] at h
        exact wpAnyZ_first (decide (k ≠ 0)) ho (Region.noSelect_spec hs) (fun c a w => hQ c a w _ _) hu hiz' n listed a w d hsz (Region.free_spec ho hf) hm (.inr ⟨by simpa using hwt, rfl⟩) (ih _ h)
theorem wp_region_tree {id : Nat} {a : Act} {w : World} (z : Nat) (t : PT) (C : World → Prop) (hm : P.follows .mixedOrders = true) (hB : allT ops z t = true) (hQ : ∀ c a w d v, Q (.panic c) (a.put d v) w → Q (.panic c) a w)
    (hC : C w.drew) (h : wpT P ops C z Q true t a w.drew) : (Code.region id ops true).wp P Q a w := by
  simp only [allT, Bool.and_eq_true] at hB
  exact wp_region_any hm (wpAny_of_Z _ _ _ _ (wpAnyZ_tree (md := .any) hB.1 hQ t ops.size true _ a w.drew (Dn.none _) (by simp) (fun h => by cases h) hB.2 (fun _ => hC) h))
theorem wpT_nil {on : Bool} {a : Act} {w : World} (h : Q .normal a w) : wpT P ops C z Q on .nil a w := by cases on <;> exact h
theorem wpT_free {on : Bool} {i : Nat} {rest : PT} {a : Act} {w : World} {o : Oper} {v : Value} (ho : ops[i]? = some o) (hwt : Region.wanted o (yielded ops a.tmps) = true) (hv : ∀ W, (execOp a.eval o).run P W = .ok (.value v) W) (h : ∀ K : Act → Prop, (∀ a', wpT P ops C z Q (on && i != z) rest a' w → K a') → K (a.put o.dst v)) : wpT P ops C z Q on (.step i 0 rest) a w :=
  ⟨o, ho, by unfold oneZ; rw [if_pos hwt, if_neg (by simp)]; exact ⟨v, fun W _ => by rw [hv W]; exact ⟨rfl, rfl⟩, h _ (fun _ h => h)⟩⟩
theorem wpT_quiet {on : Bool} {i : Nat} {rest : PT} {a : Act} {w : World} {o : Oper} {v : Value} (ho : ops[i]? = some o) (hwt : Region.wanted o (yielded ops a.tmps) = true) (hv : ∀ W, C W → (execOp a.eval o).run P W = .ok (.value v) W) (h : ∀ K : Act → Prop, (∀ a', wpT P ops C z Q (on && i != z) rest a' w → K a') → K (a.put o.dst v)) : wpT P ops C z Q on (.step i 1 rest) a w :=
  ⟨o, ho, by unfold oneZ; rw [if_pos hwt, if_neg (by simp)]; exact ⟨v, fun W hW => by rw [hv W (hW (by simp))]; exact ⟨rfl, rfl⟩, h _ (fun _ h => h)⟩⟩
theorem wpT_serial {on : Bool} {i : Nat} {rest : PT} {a : Act} {w : World} {o : Oper} (ho : ops[i]? = some o) (hwt : Region.wanted o (yielded ops a.tmps) = true) (h : ∀ K : Act → World → Prop, (∀ a' w', ((on && i != z) = true → C w') → wpT P ops C z Q (on && i != z) rest a' w' → K a' w') → o.wp P a w K Q) : wpT P ops C z Q on (.step i 2 rest) a w :=
  ⟨o, ho, by unfold oneZ; rw [if_pos hwt, if_pos rfl]; exact h _ (fun a' w' h1 h2 => ⟨h1, h2⟩)⟩
theorem wpT_fork {on : Bool} {i j : Nat} {r s : PT} {a : Act} {w : World} {o p : Oper} (ho : ops[i]? = some o) (hwt : Region.wanted o (yielded ops a.tmps) = true) (hp : ops[j]? = some p) (hwt' : Region.wanted p (yielded ops a.tmps) = true)
    (h : ∀ K : Act → World → Prop, (∀ a' w', ((on && i != z) = true → C w') → wpT P ops C z Q (on && i != z) r a' w' → K a' w') → o.wp P a w K Q)
    (g : ∀ K : Act → World → Prop, (∀ a' w', ((on && j != z) = true → C w') → wpT P ops C z Q (on && j != z) s a' w' → K a' w') → p.wp P a w K Q) : wpT P ops C z Q on (.fork i j r s) a w :=
  ⟨⟨o, ho, by unfold oneZ; rw [if_pos hwt, if_pos rfl]; exact h _ (fun a' w' h1 h2 => ⟨h1, h2⟩)⟩, ⟨p, hp, by unfold oneZ; rw [if_pos hwt', if_pos rfl]; exact g _ (fun a' w' h1 h2 => ⟨h1, h2⟩)⟩⟩
end
end Go.Proofs.YtjjlbpenagobiaaDoor
