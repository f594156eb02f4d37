/-
  Rows of ops.
-/
import Derived.Test.YtjkencgcdlfjhaaGreatDoorJOptP
import Derived.Test.YtjkencgcdlfjhaaGreatDoorKIrChk2
import Derived.Test.YtjkencgcdlfjhaaGreatDoorJPlP
import Derived.Test.YtjkencgcdlfjhaaGreatDoorJRes3
namespace Go.Proofs.YtjkencgcdlfjhaaGreatDoor
open Go.RowKit Go.Maps
set_option linter.unusedVariables false
/-- rows of ops -/
def RowsI (w : World) (v : Value) (rs : List (List Opx)) : Prop :=
  ∃ ao cap, v = .slice ao rs.length cap ∧ rs.length ≤ cap ∧ (0 < rs.length → ∃ b off : Nat, ao = some ⟨b, off, none⟩ ∧ ∀ (i : Nat) (row : List Opx), rs[i]? = some row → ∃ u, w.cell? ⟨b, off + i, none⟩ = some u ∧ OpsIn w u row)
theorem RowsI.stays {w w' : World} {v : Value} {rs : List (List Opx)} (R : RowsI w v rs) (h : Below w.heap.size w w') : RowsI w' v rs := by
  obtain ⟨ao, cap, e, hc, hh⟩ := R
  refine ⟨ao, cap, e, hc, fun hp => ?_⟩
  obtain ⟨b, off, eb, hcell⟩ := hh hp
  refine ⟨b, off, eb, fun i row hi => ?_⟩
  obtain ⟨u, hu, hO⟩ := hcell i row hi
  exact ⟨u, (h.cell (p := ⟨b, off + i, none⟩) (World.block_lt_of_cell? _ _ hu)).trans hu, hO.stays h⟩
/-- few rows, none too long -/
def Few (rs : List (List Opx)) : Prop := rs.length ≤ 1000 ∧ ∀ r ∈ rs, r.length ≤ 1000
end Go.Proofs.YtjkencgcdlfjhaaGreatDoor
/-
  What an op comes to is words; a row's results in memory.
-/
namespace Go.Proofs.YtjkencgcdlfjhaaGreatDoor
open Go.RowKit Go.Maps
open Num
set_option linter.unusedVariables false
theorem ld_bd {m : Nat → Int} (mb : ∀ i, 0 ≤ m i ∧ m i < 4294967296) (a s : Int) (sg : Bool) : u32 (ld m a s sg) := by
  unfold ld
  have h := mb (a / 4).toNat
  have hp : (0 : Int) < 2 ^ (bhd a s).toNat := Int.pow_pos (by omega)
  refine wd_bd (Int.ediv_nonneg h.1 (by omega)) ?_ sg
  have := Int.ediv_le_self (2 ^ (bhd a s).toNat) h.1
  omega
theorem resZ_bd {wt : Int → Bool} {x m : Nat → Int} {o : Opx} {many : Int} (ok : o.ok) (h : opE o many = 0) (hx : ∀ i, i < 64 → 0 ≤ x i ∧ x i < 4294967296) (mb : ∀ i, 0 ≤ m i ∧ m i < 4294967296) : u32 (resZ wt x m o).v ∧ u32 (resZ wt x m o).a := by
  obtain ⟨h0, ⟨a0, a1⟩, hb, hb3, hd, hd4⟩ := opE_flds h
  have z : u32 0 := ⟨by omega, by omega⟩
  have hi : u32 o.i := ⟨ok.i0, ok.i1⟩
  have ha : u32 (x o.a.toNat) := hx _ (by omega)
  have hl := kn_lt o.s
  unfold resZ
  by_cases h21 : o.k = 21
  · rw [if_pos h21]; exact ⟨z, z⟩
  rw [if_neg h21]
  by_cases h22 : o.k = 22
  · rw [if_pos h22]; exact ⟨z, z⟩
  rw [if_neg h22]
  by_cases h23 : o.k = 23
  · rw [if_pos h23]
    generalize (if o.b < 0 then -o.b else o.b) = n
    split
    · exact ⟨ld_bd mb _ _ _, z⟩
    · exact ⟨z, z⟩
  rw [if_neg h23]
  by_cases h24 : o.k = 24
  · rw [if_pos h24]
    have hbb := hb (by show kn o.s ≠ 23; exact h23)
    split
    · exact ⟨hx _ (by omega), lo_bd _⟩
    · exact ⟨z, z⟩
  rw [if_neg h24]
  by_cases h25 : o.k = 25
  · rw [if_pos h25]; exact ⟨z, hi⟩
  rw [if_neg h25]
  by_cases h26 : o.k = 26
  · rw [if_pos h26]; exact ⟨z, hi⟩
  rw [if_neg h26]
  by_cases h27 : o.k = 27
  · rw [if_pos h27]; exact ⟨z, ha⟩
  rw [if_neg h27]
  have hbb := hb (by show kn o.s ≠ 23; exact h23)
  have h0' : o.k ≠ 0 := h0
  have hdd := hd (.inl ⟨by show 1 ≤ kn o.s; omega, by show kn o.s ≤ 20; unfold Opx.k at *; omega⟩)
  exact ⟨valV_bd _ ha (hx _ (by omega)) (hx _ (by omega)) hi, z⟩
/-- what a store that does not trap is -/
theorem resZ_store {wt : Int → Bool} {x m : Nat → Int} {o : Opx} (hk : o.k = 24) (ht : (resZ wt x m o).trap = false) : chk (resZ wt x m o).a o.d = 0 ∧ wt ((resZ wt x m o).a / 256) = false := by
  unfold resZ at ht ⊢
  rw [if_neg (by omega), if_neg (by omega), if_neg (by omega), if_pos hk] at ht ⊢
  by_cases hc : chk (lo (x o.a.toNat + o.i)) o.d = 0
  · rw [if_pos hc] at ht ⊢; exact ⟨hc, ht⟩
  · rw [if_neg hc] at ht; cases ht
theorem appZ_bd {M : Mz} {o : Opx} {r : Ro} (hx : ∀ i, i < 64 → 0 ≤ M.x i ∧ M.x i < 4294967296) (hr : u32 r.v) : ∀ i, i < 64 → 0 ≤ (appZ M o r).x i ∧ (appZ M o r).x i < 4294967296 := by
  intro i hi
  show 0 ≤ (if 0 < wrX o then setX M.x (wrX o) r.v else M.x) i ∧ _ < _
  by_cases h : 0 < wrX o
  · simp only [appZ, if_pos h]
    unfold setX
    split
    · exact hr
    · exact hx i hi
  · simp only [appZ, if_neg h]; exact hx i hi
/-- a result's cells -/
def roC (r : Ro) : List Value := [.int .u32 r.v, .int .u32 r.a, .bool r.trap, .bool r.leave]
def roL (l : List Ro) : List Value := l.flatMap roC
theorem roL_snoc (l : List Ro) (r : Ro) : roL (l ++ [r]) = roL l ++ roC r := by unfold roL; rw [List.flatMap_append]; simp
theorem roL_get : ∀ (p : List Ro) (j : Nat) (q : Ro) (i : Nat), p[j]? = some q → i < 4 → (roL p)[j * 4 + i]? = (roC q)[i]?
  | [], j, q, i, h, _ => by simp at h
  | r :: p, 0, q, i, h, hi => by
    obtain rfl : r = q := by simpa using h
    show (roC r ++ roL p)[0 * 4 + i]? = _
    rw [Nat.zero_mul, Nat.zero_add, List.getElem?_append_left (by show i < 4; exact hi)]
  | r :: p, j + 1, q, i, h, hi => by
    show (roC r ++ roL p)[(j + 1) * 4 + i]? = _
    have e : (roC r).length = 4 := rfl
    rw [List.getElem?_append_right (by rw [e]; omega), e, show (j + 1) * 4 + i - 4 = j * 4 + i by omega]
    exact roL_get p j q i (by simpa using h) hi
/-- a row's results so far -/
def resL (wt : Int → Bool) (x m : Nat → Int) (row : List Opx) : List Ro := row.map (resZ wt x m)
theorem ro_cells {w : World} {base : Nat} {v : Value} {l : List Ro} (h : w.ownsRow base 160 4 v l.length (roL l)) : ∃ ao cap, v = .slice ao l.length cap ∧ l.length ≤ cap ∧ (0 < l.length → ∃ g, ao = some ⟨g, 0, none⟩ ∧ base ≤ g ∧ ∀ (i : Nat) (r : Ro), l[i]? = some r → ∀ j u, (roC r)[j]? = some u → w.cell? ⟨g, i * 4 + j, none⟩ = some u) := by
  obtain ⟨h1, h2⟩ := h
  rcases h2 with ⟨hv, hn⟩ | ⟨g, cap, cur, hv, hb, hg, r1, r2, r3, r4⟩
  · refine ⟨none, 0, by rw [hv, hn], by omega, fun hp => by omega⟩
  · refine ⟨_, cap, hv, r1, fun _ => ⟨g, rfl, hb, fun i r hi j u hj => ?_⟩⟩
    rw [cell_of_row _ _ _ _ _ _ hg]
    have hil : i < l.length := (List.getElem?_eq_some_iff.1 hi).1
    have hj4 : j < 4 := (List.getElem?_eq_some_iff.1 hj).1
    have : (cur.toList.take (l.length * 4))[i * 4 + j]? = some u := by rw [r4, roL_get l i r j hi hj4]; exact hj
    rw [List.getElem?_take, if_pos (by omega)] at this
    rw [← Array.getElem?_toList]; exact this
theorem infoRo : (Tryz.prog.info? 160).map (fun i => (i.zero, i.size, i.bytes)) = some (some (.agg #[.int .u32 0, .int .u32 0, .bool false, .bool false]), 4, 12) := by kernel_rfl
theorem rowZ_snoc (wt : Int → Bool) (x m : Nat → Int) (row : List Opx) (o : Opx) : rowZ wt x m (row ++ [o]) = appZ (rowZ wt x m row) o (resZ wt x m o) := by simp [rowZ]
theorem trapZ_none {wt : Int → Bool} {x m : Nat → Int} {row : List Opx} (h : ∀ o ∈ row, (resZ wt x m o).trap = false) : trapZ wt x m row = none := by
  unfold trapZ
  rw [List.find?_eq_none.2 (fun o ho => by rw [h o ho]; simp)]; rfl
theorem trapZ_at {wt : Int → Bool} {x m : Nat → Int} {row : List Opx} {k : Nat} {o : Opx} (ho : row[k]? = some o) (ht : (resZ wt x m o).trap = true) (hn : ∀ q ∈ row.take k, (resZ wt x m q).trap = false) : trapZ wt x m row = some o.t := by
  unfold trapZ
  have e : row = row.take k ++ o :: row.drop (k + 1) := by
    have hk : k < row.length := (List.getElem?_eq_some_iff.1 ho).1
    have : row[k] = o := (List.getElem?_eq_some_iff.1 ho).2
    rw [← this, ← List.drop_eq_getElem_cons hk, List.take_append_drop]
  rw [e, List.find?_append, List.find?_eq_none.2 (fun q hq => by rw [hn q hq]; simp), List.find?_cons, ht]
  rfl
end Go.Proofs.YtjkencgcdlfjhaaGreatDoor
