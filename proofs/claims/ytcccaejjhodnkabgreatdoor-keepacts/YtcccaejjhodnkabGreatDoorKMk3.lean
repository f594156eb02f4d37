/-
  Package plan: the rows of a maker in memory; what is found with room.
-/
import Derived.Test.YtcccaejjhodnkabGreatDoorKMk1
import Derived.Test.YtcccaejjhodnkabGreatDoorQPl2
import Derived.Test.YtcccaejjhodnkabGreatDoorQOwnOps
import Derived.Test.YtcccaejjhodnkabGreatDoorQPl5
namespace Go.Proofs.YtcccaejjhodnkabGreatDoor
open Go.RowKit Go.Maps
open Num
set_option linter.unusedVariables false
/-- rows that are their maker's own -/
structure RwAt (W : World) (base : Nat) (vr : Value) (us : List Value) (rs : List (List Opx)) : Prop where
  own : W.ownsRow base 40 1 vr rs.length us
  each : ∀ (k : Nat) (u : Value) (row : List Opx), us[k]? = some u → rs[k]? = some row → W.ownsRow base 64 6 u row.length (opL row) ∧ ∀ g, u.ownBlock = some g → vr.ownBlock ≠ some g
  apart : ∀ (k k' : Nat) (u u' : Value) (g : Nat), us[k]? = some u → us[k']? = some u' → k ≠ k' → u.ownBlock = some g → u'.ownBlock ≠ some g
  ok : ∀ row ∈ rs, ∀ o ∈ row, o.ok
section
variable {W W' : World} {base : Nat} {vr : Value} {us : List Value} {rs : List (List Opx)}
theorem RwAt.len (R : RwAt W base vr us rs) : us.length = rs.length := by have := R.own.1; omega
theorem RwAt.vlt (R : RwAt W base vr us rs) : ∀ k, vr.ownBlock = some k → base ≤ k ∧ k < W.heap.size := R.own.lt
theorem RwAt.ult (R : RwAt W base vr us rs) {k : Nat} {u : Value} (hu : us[k]? = some u) : ∀ g, u.ownBlock = some g → base ≤ g ∧ g < W.heap.size := by
  have hk : k < rs.length := by rw [← R.len]; exact (List.getElem?_eq_some_iff.1 hu).1
  exact (R.each k u _ hu (List.getElem?_eq_getElem hk)).1.lt
theorem RwAt.blocks (R : RwAt W base vr us rs) (h : ∀ k, base ≤ k → k < W.heap.size → W'.heap[k]? = W.heap[k]?) : RwAt W' base vr us rs where
  own := owns_blocks R.own fun k hk => h k (R.vlt k hk).1 (R.vlt k hk).2
  each := fun k u row hu hr => ⟨owns_blocks (R.each k u row hu hr).1 fun g hg => h g (R.ult hu g hg).1 (R.ult hu g hg).2, (R.each k u row hu hr).2⟩
  apart := R.apart
  ok := R.ok
theorem RwAt.stays (R : RwAt W base vr us rs) (h : Below W.heap.size W W') : RwAt W' base vr us rs := R.blocks fun k _ hk => h.block k hk
theorem RwAt.note {mb : Nat} (R : RwAt W base vr us rs) (hb : mb < base) (h : W.grownBy W' (some mb)) : RwAt W' base vr us rs := R.blocks fun k hk1 hk => h.block k hk (by intro e; have := Option.some.inj e; omega)
theorem RwAt.ops (R : RwAt W base vr us rs) {k : Nat} {u : Value} {row : List Opx} (hu : us[k]? = some u) (hr : rs[k]? = some row) : OpsIn W u row :=
  ops_of_row (n := 0) (R.each k u row hu hr).1 (R.ok row (List.mem_of_getElem? hr))
theorem RwAt.form (R : RwAt W base vr us rs) (hp : 0 < rs.length) : ∃ g cap, vr = .slice (some ⟨g, 0, none⟩) rs.length cap ∧ rs.length ≤ cap ∧ base ≤ g ∧ ∀ (i : Nat) (u : Value), us[i]? = some u → W.cell? ⟨g, i, none⟩ = some u := by
  obtain ⟨h1, h2⟩ := R.own
  rcases h2 with ⟨_, hn⟩ | ⟨g, cap, cur, hv, hb, hg, r1, r2, r3, r4⟩
  · omega
  · refine ⟨g, cap, hv, r1, hb, fun i u hu => ?_⟩
    rw [cell_of_row _ _ _ _ _ _ hg]
    have hi : i < us.length := (List.getElem?_eq_some_iff.1 hu).1
    have : (cur.toList.take (rs.length * 1))[i]? = some u := by rw [r4]; exact hu
    rw [List.getElem?_take, if_pos (by rw [← h1]; exact hi)] at this
    rw [← Array.getElem?_toList]; exact this
theorem RwAt.rows (R : RwAt W base vr us rs) : RowsI W vr rs := by
  by_cases hp : 0 < rs.length
  · obtain ⟨g, cap, hv, hc, hb, hcell⟩ := R.form hp
    refine ⟨_, cap, hv, hc, fun _ => ⟨g, 0, rfl, fun i row hi => ?_⟩⟩
    have hil : i < us.length := by rw [R.len]; exact (List.getElem?_eq_some_iff.1 hi).1
    exact ⟨us[i], by rw [Nat.zero_add]; exact hcell i _ (List.getElem?_eq_getElem hil), R.ops (List.getElem?_eq_getElem hil) hi⟩
  · have h0 : rs.length = 0 := by omega
    obtain ⟨h1, h2⟩ := R.own
    rcases h2 with ⟨hv, hn⟩ | ⟨g, cap, cur, hv, hb, hg, r1, r2, r3, r4⟩
    · exact ⟨none, 0, by rw [hv, h0], by omega, fun h => by omega⟩
    · exact ⟨_, cap, hv, r1, fun h => by omega⟩
theorem RowsI.nil {v : Value} {n : Nat} {ao : Option Addr} {cap : Nat} (hv : v = .slice ao 0 cap) : RowsI W v [] := ⟨ao, cap, hv, Nat.zero_le _, fun h => by simp at h⟩
/-- rows from a place on -/
theorem RwAt.drop (R : RwAt W base vr us rs) (f : Nat) (hf : f ≤ rs.length) (hm : rs.length ≤ 100000) : ∃ X, (∀ W' : World, (Instr.slice 35 vr (some (.int .i64 (f : Int))) none none).run Tryz.prog W' = .ok X W') ∧ RowsI W X (rs.drop f) := by
  have e1 : ∀ W' : World, (sizeOf 40).run Tryz.prog W' = .ok 1 W' := fun W' => by kernel_rfl
  by_cases hp : 0 < rs.length
  · obtain ⟨g, cap, hv, hc, hb, hcell⟩ := R.form hp
    subst hv
    have hrun : ∀ W' : World, (Instr.slice 35 (.slice (some ⟨g, 0, none⟩) rs.length cap) (some (.int .i64 (f : Int))) none none).run Tryz.prog W' = .ok (.slice (if cap = f then some ⟨g, 0, none⟩ else some ⟨g, f, none⟩) (rs.length - f) (cap - f)) W' := fun W' => by
      have hi : ((f : Int) : Int) ≤ (rs.length : Int) := by omega
      have h0 : (0 : Int) ≤ (f : Int) := by omega
      unfold Instr.slice
      simp [run_underlying Tryz.underlying35, Instr.sliceBounds, run_sliceBound, hi, h0, e1, go_sem]
    refine ⟨_, hrun, ?_⟩
    have hl : (rs.drop f).length = rs.length - f := List.length_drop
    by_cases hcf : cap = f
    · have h0 : rs.drop f = [] := List.drop_eq_nil_of_le (by omega)
      rw [h0, if_pos hcf]
      exact ⟨_, _, by rw [show rs.length - f = 0 by omega]; rfl, Nat.zero_le _, fun h => by simp at h⟩
    · rw [if_neg hcf]
      refine ⟨_, cap - f, by rw [hl], by rw [hl]; omega, fun _ => ⟨g, f, rfl, fun i row hi => ?_⟩⟩
      rw [List.getElem?_drop] at hi
      have hil : f + i < us.length := by rw [R.len]; exact (List.getElem?_eq_some_iff.1 hi).1
      exact ⟨us[f + i], hcell (f + i) _ (List.getElem?_eq_getElem hil), R.ops (List.getElem?_eq_getElem hil) hi⟩
  · have h0 : rs.length = 0 := by omega
    have hf0 : f = 0 := by omega
    subst hf0
    obtain ⟨ao, cap, hv, _, _⟩ := R.rows
    subst hv
    rw [h0]
    refine ⟨.slice ao 0 cap, fun W' => ?_, ?_⟩
    · unfold Instr.slice
      simp [run_underlying Tryz.underlying35, Instr.sliceBounds, run_sliceBound, e1, go_sem]
    · rw [List.drop_zero, List.length_eq_zero_iff.1 h0]; exact RowsI.nil (n := 0) rfl
/-- one row more, with nothing in it -/
theorem RwAt.snoc {W1 : World} {v' : Value} (R : RwAt W1 base vr us rs) (ho : W'.ownsRow base 40 1 v' (rs.length + 1) (us ++ [.slice none 0 0])) (hg : W1.grownBy W' vr.ownBlock) (hm : Moved W1 vr v') : RwAt W' base v' (us ++ [.slice none 0 0]) (rs ++ [[]]) := by
  have hl := R.len
  have at_ : ∀ k u, (us ++ [Value.slice none 0 0])[k]? = some u → (k < us.length ∧ us[k]? = some u) ∨ (k = us.length ∧ u = .slice none 0 0) := by
    intro k u h
    by_cases hk : k < us.length
    · rw [List.getElem?_append_left hk] at h; exact .inl ⟨hk, h⟩
    · rw [List.getElem?_append_right (by omega)] at h
      have h0 : k - us.length = 0 := by
        rcases Nat.eq_zero_or_pos (k - us.length) with h' | h'
        · exact h'
        · rw [List.getElem?_eq_none (by simp; omega)] at h; cases h
      rw [h0] at h
      exact .inr ⟨by omega, by simpa using h.symm⟩
  refine ⟨by rw [List.length_append]; exact ho, fun k u row hu hr => ?_, fun k k' u u' g hu hu' hne hg' => ?_, fun row hr => ?_⟩
  · rcases at_ k u hu with ⟨hk, hu⟩ | ⟨hk, rfl⟩
    · rw [List.getElem?_append_left (by omega)] at hr
      obtain ⟨h1, h2⟩ := R.each k u row hu hr
      refine ⟨h1.kept hg ?_, fun g hgu hv => ?_⟩
      · cases hob : u.ownBlock with
        | none => exact .inl rfl
        | some g => exact .inr (Ne.symm (h2 g hob))
      · rcases hm g hv with h | h
        · exact h2 g hgu h
        · have := (R.ult hu g hgu).2; omega
    · rw [List.getElem?_append_right (by omega), show k - rs.length = 0 by omega] at hr
      obtain rfl : [] = row := by simpa using hr
      exact ⟨World.ownsRow_nil _ _ _ _, fun g hgu => by cases hgu⟩
  · rcases at_ k u hu with ⟨hk, hu⟩ | ⟨hk, rfl⟩
    · rcases at_ k' u' hu' with ⟨hk', hu'⟩ | ⟨hk', rfl⟩
      · exact R.apart k k' u u' g hu hu' hne hg'
      · intro h; cases h
    · cases hg'
  · rcases List.mem_append.1 hr with h | h
    · exact R.ok row h
    · simp at h; subst h; intro o ho; cases ho
theorem opL_snoc (l : List Opx) (o : Opx) : opL (l ++ [o]) = opL l ++ opC o := by unfold opL; rw [List.flatMap_append]; simp
/-- one op more in a row -/
theorem RwAt.push {W1 : World} {v' u : Value} {g cap n : Nat} {row : List Opx} {o : Opx} (R : RwAt W1 base (.slice (some ⟨g, 0, none⟩) rs.length cap) us rs) (hu : us[n]? = some u) (hr : rs[n]? = some row) (ok : o.ok) (ho : W'.ownsRow base 64 6 v' (row.length + 1) (opL row ++ opC o)) (hg : W1.grownBy W' u.ownBlock) (hm : Moved W1 u v') :
    RwAt (W'.setCell ⟨g, n, none⟩ v') base (.slice (some ⟨g, 0, none⟩) rs.length cap) (us.set n v') (rs.modify n (· ++ [o])) := by
  have hnu : n < us.length := (List.getElem?_eq_some_iff.1 hu).1
  have hnr : n < rs.length := (List.getElem?_eq_some_iff.1 hr).1
  have hgb := R.vlt g rfl
  have hug : ∀ k, u.ownBlock = some k → k ≠ g := fun k hk e => (R.each n u row hu hr).2 k hk (by rw [e]; rfl)
  have hvg : v'.ownBlock ≠ some g := fun e => by
    rcases hm g e with h | h
    · exact hug g h rfl
    · omega
  have hown1 : W'.ownsRow base 40 1 (.slice (some ⟨g, 0, none⟩) rs.length cap) rs.length us := R.own.kept hg (.inr (fun e => hug g e.symm rfl))
  have hst := (hown1.stored n v').1
  have hget : ∀ k x, (us.set n v')[k]? = some x → (k = n ∧ x = v') ∨ (k ≠ n ∧ us[k]? = some x) := by
    intro k x h
    rw [List.getElem?_set] at h
    by_cases e : n = k
    · rw [if_pos e, if_pos hnu] at h; exact .inl ⟨e.symm, by simpa using h.symm⟩
    · rw [if_neg e] at h; exact .inr ⟨fun h' => e h'.symm, h⟩
  have hkept : ∀ k x row', k ≠ n → us[k]? = some x → rs[k]? = some row' → (W'.setCell ⟨g, n, none⟩ v').ownsRow base 64 6 x row'.length (opL row') := by
    intro k x row' hne hx hr'
    obtain ⟨h1, h2⟩ := R.each k x row' hx hr'
    refine ownsRow_setCell_other (h1.kept hg ?_) (fun e => h2 g e rfl) _
    cases hob : x.ownBlock with
    | none => exact .inl rfl
    | some y => exact .inr (fun e => R.apart k n x u y hx hu hne hob e.symm)
  refine ⟨by rw [List.length_modify]; exact hst, fun k x row' hx hr' => ?_, fun k k' x x' y hx hx' hne hy => ?_, fun row' hr' => ?_⟩
  · rw [List.getElem?_modify] at hr'
    rcases hget k x hx with ⟨rfl, rfl⟩ | ⟨hne, hx⟩
    · rw [hr] at hr'
      obtain rfl : row ++ [o] = row' := by simpa using hr'
      refine ⟨?_, fun y hy e => ?_⟩
      · rw [opL_snoc, List.length_append]; exact ownsRow_setCell_other ho hvg _
      · have : y = g := by simpa [Value.ownBlock] using e.symm
        subst this; exact hvg hy
    · obtain ⟨q, hq, hqe⟩ : ∃ q, rs[k]? = some q ∧ q = row' := by
        cases hq : rs[k]? with
        | none => rw [hq] at hr'; simp at hr'
        | some q => rw [hq] at hr'; simp [Ne.symm hne] at hr'; exact ⟨q, rfl, hr'⟩
      subst hqe
      exact ⟨hkept k x q hne hx hq, (R.each k x q hx hq).2⟩
  · rcases hget k x hx with ⟨rfl, rfl⟩ | ⟨h1, hx1⟩
    · rcases hget k' x' hx' with ⟨rfl, rfl⟩ | ⟨h2, hx2⟩
      · exact absurd rfl hne
      · intro e
        rcases hm y hy with h | h
        · exact R.apart k k' u x' y hu hx2 hne h e
        · have := (R.ult hx2 y e).2; omega
    · rcases hget k' x' hx' with ⟨rfl, rfl⟩ | ⟨h2, hx2⟩
      · intro e
        rcases hm y e with h | h
        · exact R.apart k k' x u y hx1 hu hne hy h
        · have := (R.ult hx1 y hy).2; omega
      · exact R.apart k k' x x' y hx1 hx2 hne hy
  · intro q hq
    obtain ⟨k, hk⟩ := List.getElem?_of_mem hr'
    rw [List.getElem?_modify] at hk
    cases hz : rs[k]? with
    | none => rw [hz] at hk; simp at hk
    | some z =>
      rw [hz] at hk
      have hmz := List.mem_of_getElem? hz
      by_cases e : n = k
      · simp [e] at hk
        subst hk
        rcases List.mem_append.1 hq with h | h
        · exact R.ok z hmz q h
        · simp at h; subst h; exact ok
      · simp [e] at hk
        subst hk
        exact R.ok z hmz q hq
end
end Go.Proofs.YtcccaejjhodnkabGreatDoor
/-
  What a row of rows' element is.
-/
namespace Go.Proofs.YtcccaejjhodnkabGreatDoor
theorem infoOpsP : (Tryz.prog.info? 40).map (fun i => (i.zero, i.size, i.bytes)) = some (some (.slice none 0 0), 1, 24) := by kernel_rfl
end Go.Proofs.YtcccaejjhodnkabGreatDoor
/-
  Package plan: place.
-/
namespace Go.Proofs.YtcccaejjhodnkabGreatDoor
open Go.RowKit Go.Maps
open Num
set_option linter.unusedVariables false
structure CkR (W : World) (mb g n xb : Nat) (vr u : Value) (o : Opx) : Prop where
  a : W.cell? ⟨mb, 0, none⟩ = some vr
  b : W.cell? ⟨g, n, none⟩ = some u
  x : BoxP W xb o
end Go.Proofs.YtcccaejjhodnkabGreatDoor
