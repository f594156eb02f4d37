/-
  sameOps, of two slices that hold the same ops.
-/
import Derived.Test.YtjkencgcdlfjhaaGreatDoorJApp
import Derived.Test.YtjkencgcdlfjhaaGreatDoorJReads
import Derived.Test.YtjkencgcdlfjhaaGreatDoorJPlP
import Derived.Test.YtjkencgcdlfjhaaGreatDoorJDoc6
import Derived.Test.YtjkencgcdlfjhaaGreatDoorKGDo
import Derived.Test.YtjkencgcdlfjhaaGreatDoorJSame
namespace Go.Proofs.YtjkencgcdlfjhaaGreatDoor
open Go.RowKit Go.Maps
open Num
set_option linter.unusedVariables false
end Go.Proofs.YtjkencgcdlfjhaaGreatDoor
/-
  each: rows of one op.
-/
namespace Go.Proofs.YtjkencgcdlfjhaaGreatDoor
open Go.RowKit Go.Maps
open Num
set_option linter.unusedVariables false
/-- rows of ops -/
structure RowsIn (w : World) (v : Value) (ll : List (List Opx)) : Prop where
  sh : ∃ ao cap, v = .slice ao ll.length cap ∧ ll.length ≤ cap ∧ (0 < ll.length → ∃ b, ao = some ⟨b, 0, none⟩ ∧ ∀ i l, ll[i]? = some l → ∃ u, w.cell? ⟨b, i, none⟩ = some u ∧ OpsIn w u l)
theorem RowsIn.stays {w w' : World} {v : Value} {ll : List (List Opx)} (R : RowsIn w v ll) (h : Below w.heap.size w w') : RowsIn w' v ll := by
  obtain ⟨ao, cap, e, hcp, hh⟩ := R.sh
  exact ⟨ao, cap, e, hcp, fun hp => let ⟨b, eb, hc⟩ := hh hp; ⟨b, eb, fun i l hi => let ⟨u, hu, hO⟩ := hc i l hi; ⟨u, (h.cell (World.block_lt_of_cell? _ _ hu)).trans hu, hO.stays h⟩⟩⟩
/-- rows of one op: each in a block of its own, apart from the row vo that holds them -/
def Ones (w : World) (vo : Value) (us : List Value) (l : List Opx) : Prop := us.length = l.length ∧ ∀ (k : Nat) (u : Value) (o : Opx), us[k]? = some u → l[k]? = some o → ∃ g, u = .slice (some ⟨g, 0, none⟩) 1 1 ∧ OpsIn w u [o] ∧ vo.ownBlock ≠ some g ∧ g < w.heap.size
theorem OpsIn.block1 {w w' : World} {g : Nat} {o : Opx} (A : OpsIn w (.slice (some ⟨g, 0, none⟩) 1 1) [o]) (h : w'.heap[g]? = w.heap[g]?) : OpsIn w' (.slice (some ⟨g, 0, none⟩) 1 1) [o] := by
  obtain ⟨ao, cap, e, hc, hh⟩ := A.sh
  injection e with e1 e2 e3
  subst e1
  subst e3
  refine ⟨⟨some ⟨g, 0, none⟩, 1, rfl, hc, fun hp => ?_⟩, A.ok⟩
  obtain ⟨b, off, e, hcell⟩ := hh hp
  injection e with e
  injection e with e1 e2
  subst e1
  subst e2
  exact ⟨g, 0, rfl, fun i o hi j u hu => (World.cell?_of_block (a := ⟨g, 0 + i * 6 + j, none⟩) h).trans (hcell i o hi j u hu)⟩
/-- one row more: first its own block, then the row's place, then the row that holds them -/
theorem Ones.snoc {w W w' : World} {vo vo' : Value} {us : List Value} {l : List Opx} {o : Opx} (H : Ones w vo us l) (hv : ∀ k, vo.ownBlock = some k → k < w.heap.size) (hW : Below w.heap.size w W) (g : Nat) (hg : w.heap.size ≤ g) (hg2 : g < W.heap.size) (hO : OpsIn W (.slice (some ⟨g, 0, none⟩) 1 1) [o]) (hgr : W.grownBy w' vo.ownBlock) (hm : Moved W vo vo') :
    Ones w' vo' (us ++ [.slice (some ⟨g, 0, none⟩) 1 1]) (l ++ [o]) := by
  have hsz := hgr.size
  have blk : ∀ k, k < W.heap.size → vo.ownBlock ≠ some k → w'.heap[k]? = W.heap[k]? := fun k hk hne => hgr.block k hk (Ne.symm hne)
  have nv : ∀ k, k < W.heap.size → vo.ownBlock ≠ some k → vo'.ownBlock ≠ some k := fun k hk hne h => by
    rcases hm k h with h | h
    · exact hne h
    · omega
  have hgo : vo.ownBlock ≠ some g := fun h => by have := hv g h; omega
  refine ⟨by simp [H.1], fun k u o' hu ho => ?_⟩
  by_cases hk : k < us.length
  · rw [List.getElem?_append_left hk] at hu
    rw [List.getElem?_append_left (by rw [← H.1]; exact hk)] at ho
    obtain ⟨a, ea, hA, hn, hl⟩ := H.2 k u o' hu ho
    subst ea
    have hl2 : a < W.heap.size := by have := hW.size; omega
    exact ⟨a, rfl, (hA.stays hW).block1 (blk a hl2 hn), nv a hl2 hn, by omega⟩
  · rw [List.getElem?_append_right (by omega)] at hu
    rw [List.getElem?_append_right (by rw [← H.1]; omega), ← H.1] at ho
    have h0 : k - us.length = 0 := by
      rcases Nat.eq_zero_or_pos (k - us.length) with h | h
      · exact h
      · rw [List.getElem?_eq_none (by simp; omega)] at hu; cases hu
    rw [h0] at hu ho
    obtain rfl : Value.slice (some ⟨g, 0, none⟩) 1 1 = u := by simpa using hu
    obtain rfl : o = o' := by simpa using ho
    exact ⟨g, rfl, hO.block1 (blk g hg2 hgo), nv g hg2 hgo, by omega⟩
/-- the rows at the end -/
theorem Ones.rows {w : World} {base : Nat} {vo : Value} {us : List Value} {l : List Opx} (H : Ones w vo us l) (ho : w.ownsRow base 23 1 vo us.length us) : RowsIn w vo (eachL l) := by
  have hlen : (eachL l).length = us.length := by unfold eachL; rw [List.length_map, H.1]
  obtain ⟨h1, h2⟩ := ho
  rcases h2 with ⟨hv, hn⟩ | ⟨g, cap, cur, hv, hb, hg, hr⟩
  · exact ⟨none, 0, by rw [hv, hlen, hn], by omega, fun hp => by omega⟩
  · obtain ⟨r1, r2, r3, r4⟩ := hr
    refine ⟨some ⟨g, 0, none⟩, cap, by rw [hv, hlen], by omega, fun _ => ⟨g, rfl, fun i row hi => ?_⟩⟩
    have hil : i < us.length := by rw [← hlen]; exact (List.getElem?_eq_some_iff.1 hi).1
    obtain ⟨o, ho, rfl⟩ : ∃ o, l[i]? = some o ∧ [o] = row := by
      unfold eachL at hi
      rw [List.getElem?_map] at hi
      cases hx : l[i]? with
      | none => rw [hx] at hi; cases hi
      | some o => rw [hx] at hi; exact ⟨o, rfl, by simpa using hi⟩
    obtain ⟨u, hu⟩ : ∃ u, us[i]? = some u := ⟨_, List.getElem?_eq_getElem hil⟩
    obtain ⟨a, rfl, hA, _, _⟩ := H.2 i u o hu ho
    refine ⟨_, ?_, hA⟩
    rw [cell_of_row _ _ _ _ _ _ hg]
    have : (cur.toList.take (us.length * 1))[i]? = some (.slice (some ⟨a, 0, none⟩) 1 1) := by rw [r4]; exact hu
    rw [List.getElem?_take, if_pos (by omega)] at this
    rw [← Array.getElem?_toList]; exact this
theorem own_at {w : World} {base : Nat} {e : TypeId} {size n : Nat} {v : Value} {xs : List Value} (h : w.ownsRow base e size v n xs) : ∀ k, v.ownBlock = some k → k < w.heap.size ∧ base ≤ k := by
  intro k hk
  rcases h.2 with ⟨hv, _⟩ | ⟨g, cap, cur, hv, hb, hg, _⟩
  · subst hv; cases hk
  · subst hv
    obtain rfl : g = k := by simpa [Value.ownBlock] using hk
    exact ⟨(Array.getElem?_eq_some_iff.1 hg).1, hb⟩
end Go.Proofs.YtjkencgcdlfjhaaGreatDoor
/-
  A plan that is well: what its rows have; it does not run out of rows.
-/
namespace Go.Proofs.YtjkencgcdlfjhaaGreatDoor
open Go.RowKit Go.Maps
open Num
set_option linter.unusedVariables false
theorem rowsF_all (many : Int) : ∀ (rs : List (List Opx)) (n : Nat), (rowsF many n rs).1 = 0 → ∀ (k : Nat) (q : List Opx), rs[k]? = some q → rowE many (decide (k + 1 = rs.length)) q = 0
  | [], n, _, k, q, h => by simp at h
  | r :: rs, n, h, k, q, hq => by
    unfold rowsF at h
    by_cases hr : rowE many rs.isEmpty r ≠ 0
    · rw [if_pos hr] at h; exact absurd h hr
    · rw [if_neg hr] at h
      have hr : rowE many rs.isEmpty r = 0 := Decidable.not_not.1 hr
      cases k with
      | zero =>
        obtain rfl : r = q := by simpa using hq
        have e : rs.isEmpty = decide (0 + 1 = (r :: rs).length) := by cases rs <;> simp
        rw [← e]; exact hr
      | succ k =>
        have := rowsF_all many rs (n + 1) h k q (by simpa using hq)
        have e : decide (k + 1 + 1 = (r :: rs).length) = decide (k + 1 = rs.length) := by simp
        rw [e]; exact this
structure PlanOk (many : Int) (rs : List (List Opx)) : Prop where
  m0 : 1 ≤ many
  m1 : many ≤ 24
  len : rs.length ≤ 200
  ne : rs ≠ []
  row : ∀ r ∈ rs, r.length ≤ 4 ∧ ∀ o ∈ r, opE o many = 0
  last : ∀ r, rs.getLast? = some r → r.any outB = true
theorem planF_ok {many : Int} {rs : List (List Opx)} (h : planF many rs = (0, -1)) : PlanOk many rs := by
  unfold planF at h
  by_cases h1 : many < 1 ∨ 24 < many
  · rw [if_pos h1] at h; cases h
  rw [if_neg h1] at h
  by_cases h2 : 200 < rs.length
  · rw [if_pos h2] at h; cases h
  rw [if_neg h2] at h
  by_cases h3 : rs = []
  · rw [if_pos h3] at h; cases h
  rw [if_neg h3] at h
  by_cases h4 : (rowsF many 0 rs).1 ≠ 0
  · rw [if_pos h4] at h; rw [h] at h4; exact absurd rfl h4
  have h4 : (rowsF many 0 rs).1 = 0 := Decidable.not_not.1 h4
  have hall := rowsF_all many rs 0 h4
  have hrow : ∀ (last : Bool) (q : List Opx), rowE many last q = 0 → (¬ (q = [] ∨ 4 < q.length)) ∧ firE many q = 0 ∧ last = q.any outB := by
    intro last q hq
    unfold rowE at hq
    by_cases a1 : q = [] ∨ 4 < q.length
    · rw [if_pos a1] at hq; cases hq
    rw [if_neg a1] at hq
    by_cases a2 : firE many q ≠ 0
    · rw [if_pos a2] at hq; exact absurd hq a2
    rw [if_neg a2] at hq
    by_cases a3 : fitB q = false
    · rw [if_pos a3] at hq; cases hq
    rw [if_neg a3] at hq
    by_cases a4 : dupA [] q = true
    · rw [if_pos a4] at hq; cases hq
    rw [if_neg a4] at hq
    by_cases a5 : last ≠ q.any outB
    · rw [if_pos a5] at hq; cases hq
    exact ⟨a1, Decidable.not_not.1 a2, Decidable.not_not.1 a5⟩
  refine ⟨by omega, by omega, by omega, h3, fun r hr => ?_, fun r hr => ?_⟩
  · obtain ⟨k, hk, e⟩ := List.mem_iff_getElem.1 hr
    obtain ⟨a1, a2, _⟩ := hrow _ r (hall k r (by rw [List.getElem?_eq_getElem hk, e]))
    exact ⟨by have : ¬ 4 < r.length := fun h => a1 (.inr h); omega, firE_all many r a2⟩
  · rw [List.getLast?_eq_getElem?] at hr
    have hp : 0 < rs.length := List.length_pos_iff.2 h3
    obtain ⟨_, _, a3⟩ := hrow _ r (hall (rs.length - 1) r hr)
    rw [← a3]; simp; omega
theorem rowZ_mbd {wt : Int → Bool} {x m : Nat → Int} : ∀ (row : List Opx) (M : Mz), (∀ o ∈ row, (resZ wt x m o).trap = false) → (∀ i, 0 ≤ M.m i ∧ M.m i < 4294967296) → ∀ i, 0 ≤ (row.foldl (fun M o => appZ M o (resZ wt x m o)) M).m i ∧ (row.foldl (fun M o => appZ M o (resZ wt x m o)) M).m i < 4294967296
  | [], M, _, h => h
  | o :: row, M, ht, h => by
    refine rowZ_mbd row (appZ M o (resZ wt x m o)) (fun q hq => ht q (by simp [hq])) ?_
    show ∀ i, 0 ≤ (if o.k = 24 then upd M.m (resZ wt x m o).a o.d (resZ wt x m o).v else M.m) i ∧ (if o.k = 24 then upd M.m (resZ wt x m o).a o.d (resZ wt x m o).v else M.m) i < 4294967296
    by_cases hk : o.k = 24
    · rw [if_pos hk]
      obtain ⟨hc, _⟩ := resZ_store hk (ht o (by simp))
      obtain ⟨c1, c2, _⟩ := chk_ok hc
      exact upd_bd _ _ _ _ c1 c2 h
    · rw [if_neg hk]; exact h
theorem resZ_out {wt : Int → Bool} {x m : Nat → Int} {o : Opx} (h : outB o = true) : (resZ wt x m o).leave = true := by
  unfold outB at h
  simp only [decide_eq_true_eq] at h
  unfold resZ
  rw [if_neg (by omega), if_neg (by omega), if_neg (by omega), if_neg (by omega), if_neg (by omega)]
  rcases h with h | h
  · rw [if_pos h]
  · rw [if_neg (by omega), if_pos h]
theorem rowZ_out {wt : Int → Bool} {x m : Nat → Int} : ∀ (row : List Opx) (M : Mz), (∀ o ∈ row, u32 (resZ wt x m o).a) → (0 ≤ M.lv ∨ ∃ o ∈ row, (resZ wt x m o).leave = true) → 0 ≤ (row.foldl (fun M o => appZ M o (resZ wt x m o)) M).lv
  | [], M, _, h => by
    rcases h with h | ⟨o, ho, _⟩
    · exact h
    · cases ho
  | o :: row, M, hb, h => by
    refine rowZ_out row (appZ M o (resZ wt x m o)) (fun q hq => hb q (by simp [hq])) ?_
    have hlv : (appZ M o (resZ wt x m o)).lv = if (resZ wt x m o).leave = true then (resZ wt x m o).a else M.lv := rfl
    have ha := (hb o (by simp)).1
    by_cases hl : (resZ wt x m o).leave = true
    · left; rw [hlv, if_pos hl]; exact ha
    · rw [hlv, if_neg hl]
      rcases h with h | ⟨q, hq, h⟩
      · exact .inl h
      · rcases List.mem_cons.1 hq with rfl | hq
        · exact absurd h hl
        · exact .inr ⟨q, hq, h⟩
theorem trapZ_all {wt : Int → Bool} {x m : Nat → Int} {row : List Opx} (h : trapZ wt x m row = none) : ∀ o ∈ row, (resZ wt x m o).trap = false := by
  intro o ho
  unfold trapZ at h
  rw [Option.map_eq_none_iff, List.find?_eq_none] at h
  have := h o ho
  simpa using this
theorem runZ_nofell {many : Int} (wt : Int → Bool) : ∀ (rs : List (List Opx)) (x m : Nat → Int), rs ≠ [] → (∀ r ∈ rs, ∀ o ∈ r, o.ok ∧ opE o many = 0) → (∀ r, rs.getLast? = some r → r.any outB = true) → (∀ i, i < 64 → 0 ≤ x i ∧ x i < 4294967296) → (∀ i, 0 ≤ m i ∧ m i < 4294967296) → runZ wt rs x m ≠ .fell
  | [], x, m, h, _, _, _, _ => absurd rfl h
  | r :: rs, x, m, _, hw, hl, hx, hm => by
    rw [runZ_cons]
    cases ht : trapZ wt x m r with
    | some t => simp
    | none =>
      have hnt := trapZ_all ht
      simp only
      split
      · rename_i hlv
        cases rs with
        | nil =>
          exfalso
          have ho := hl r rfl
          obtain ⟨o, hor, hoo⟩ := List.any_eq_true.1 ho
          have := rowZ_out (wt := wt) (x := x) (m := m) r ⟨x, m, -1⟩ (fun q hq => (resZ_bd (wt := wt) (hw r (by simp) q hq).1 (hw r (by simp) q hq).2 hx hm).2) (.inr ⟨o, hor, resZ_out hoo⟩)
          unfold rowZ at hlv
          omega
        | cons r2 rs =>
          refine runZ_nofell wt (r2 :: rs) _ _ (by simp) (fun q hq => hw q (by simp [hq])) (fun q hq => hl q (by rw [List.getLast?_cons_cons]; exact hq)) ?_ ?_
          · exact rowZ_xbd hx hm r ⟨x, m, -1⟩ (fun q hq => hw r (by simp) q hq) hx
          · exact rowZ_mbd r ⟨x, m, -1⟩ hnt hm
      · simp
end Go.Proofs.YtjkencgcdlfjhaaGreatDoor
/-
  What OptEnds's walk wants of the pure side.
-/
namespace Go.Proofs.YtjkencgcdlfjhaaGreatDoor
open Go.RowKit Go.Maps
open Num
set_option linter.unusedVariables false
theorem OzAlike.same {a b : Oz} (h : OzAlike a b) : OzSame b a := by
  cases a <;> cases b <;> simp only [OzAlike, OzSame] at h ⊢
  obtain ⟨h1, h2, h3⟩ := h
  exact ⟨h1.symm, fun i _ => by rw [h2], fun r r1 r2 => (h3 r r1 r2).symm⟩
/-- a code's three cells -/
structure CBox (W : World) (b : Nat) (pc many : Int) (v : Value) : Prop where
  k0 : W.cell? ⟨b, 0, none⟩ = some (.int .u32 pc)
  k1 : W.cell? ⟨b, 1, none⟩ = some (.int .i64 many)
  k2 : W.cell? ⟨b, 2, none⟩ = some v
theorem CBox.lt {W : World} {b : Nat} {pc many : Int} {v : Value} (C : CBox W b pc many v) : b < W.heap.size := World.block_lt_of_cell? _ _ C.k0
theorem CBox.stays {W W' : World} {b : Nat} {pc many : Int} {v : Value} (C : CBox W b pc many v) (h : Below W.heap.size W W') : CBox W' b pc many v :=
  ⟨(h.cell (p := ⟨b, 0, none⟩) C.lt).trans C.k0, (h.cell (p := ⟨b, 1, none⟩) C.lt).trans C.k1, (h.cell (p := ⟨b, 2, none⟩) C.lt).trans C.k2⟩
theorem CBox.new (w : World) (pc many : Int) (v : Value) : CBox (w.alloc (.cells #[.int .u32 pc, .int .i64 many, v] 35)) w.heap.size pc many v := by
  refine ⟨by simp, by simp, by simp⟩
/-- a fault's two cells -/
structure FBx (W : World) (b : Nat) (x y : Int) : Prop where
  k0 : W.cell? ⟨b, 0, none⟩ = some (.int .i64 x)
  k1 : W.cell? ⟨b, 1, none⟩ = some (.int .i64 y)
  fz : ∀ j, W.frozen? ⟨b, j, none⟩ = false
theorem FBx.lt {W : World} {b : Nat} {x y : Int} (C : FBx W b x y) : b < W.heap.size := World.block_lt_of_cell? _ _ C.k0
theorem FBx.stays {W W' : World} {b : Nat} {x y : Int} (C : FBx W b x y) (h : Below W.heap.size W W') : FBx W' b x y :=
  ⟨(h.cell (p := ⟨b, 0, none⟩) C.lt).trans C.k0, (h.cell (p := ⟨b, 1, none⟩) C.lt).trans C.k1, fun j => (World.frozen?_of_block (a := ⟨b, j, none⟩) (h.block _ C.lt)).trans (C.fz j)⟩
theorem FBx.new (w : World) (x y : Int) : FBx (w.alloc (.cells #[.int .i64 x, .int .i64 y] 37)) w.heap.size x y := by
  refine ⟨by simp, by simp, fun j => by simp⟩
theorem FBx.put {W : World} {b : Nat} {x y : Int} (C : FBx W b x y) (x' y' : Int) : FBx ((W.setCell ⟨b, 0, none⟩ (.int .i64 x')).setCell ⟨b, 1, none⟩ (.int .i64 y')) b x' y' := by
  refine ⟨by rw [set_other (by omega)]; exact set_same (by rw [C.k0]; rfl), set_same (by rw [set_other (by omega), C.k1]; rfl), fun j => by simp only [World.frozen?_setCell]; exact C.fz j⟩
end Go.Proofs.YtjkencgcdlfjhaaGreatDoor
