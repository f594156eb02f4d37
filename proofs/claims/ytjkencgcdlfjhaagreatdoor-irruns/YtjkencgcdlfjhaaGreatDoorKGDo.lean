/-
  A Guest's Do.
-/
import Derived.Test.YtjkencgcdlfjhaaGreatDoorKIrChk2
import Derived.Test.YtjkencgcdlfjhaaGreatDoorJPhase
import Derived.Test.YtjkencgcdlfjhaaGreatDoorJNew
import Derived.Test.YtjkencgcdlfjhaaGreatDoorJPass
import Derived.Test.YtjkencgcdlfjhaaGreatDoorJDoc6
import Derived.Test.YtjkencgcdlfjhaaGreatDoorJBits
import Derived.Test.YtjkencgcdlfjhaaGreatDoorJRun0
import Derived.Test.YtjkencgcdlfjhaaGreatDoorKGEf
namespace Go.Proofs.YtjkencgcdlfjhaaGreatDoor
open Go.RowKit Go.Maps
open Num
set_option linter.unusedVariables false
def doX (e : Ef) (X : Nat → Int) : Nat → Int := if e.r = 0 then X else setX X e.r e.v
def doP (e : Ef) (l : List Pend) : List Pend := if e.s = 0 then l else l ++ [⟨e.a, e.s, e.sv⟩]
section
variable {w : World} {base mb stb sb bp bw bh N : Nat} {X : Nat → Int} {p : List Pq} {vi : Value} {m : Nat → Int} {wt ht : Int → Bool}
set_option maxRecDepth 100000 in
set_option maxHeartbeats 4000000 in
theorem do_any (G : GAt w base mb stb sb X p vi) (hp : p.length ≤ 1000) (E : Ef) (r0 : 0 ≤ E.r) (r1 : E.r < 64) (hv : u32 E.v) (h : E.s = 0 ∨ E.r = 0 ∧ Pend.ok ⟨E.a, E.s, E.sv⟩) :
    Calls Tryz.prog 52 #[.pointer (some ⟨mb, 0, none⟩), .agg (efA E)] w fun e w' => e = .returned (.tuple #[.int .u32 E.to, .bool E.lv]) ∧ ∃ p' vi', pqs p' = doP E (pqs p) ∧ p'.length ≤ p.length + 1 ∧ GAt w' base mb stb sb (doX E X) p' vi' ∧ Moved w vi vi' ∧ Kx w w' mb vi := by
  obtain ⟨r, v, a, s, sv, lv, to⟩ := E
  simp only at *
  unfold efA doX doP
  simp only
  have GH : Hid (GAt (w.alloc (.cells #[.int .i64 r, .int .u32 v, .int .u32 a, .int .i64 s, .int .u32 sv, .bool lv, .int .u32 to] 110)) base mb stb sb X p vi) := G.opened _
  have hB0 : Hid (Kx w (w.alloc (.cells #[.int .i64 r, .int .u32 v, .int .u32 a, .int .i64 s, .int .u32 sv, .bool lv, .int .u32 to] 110)) mb vi) := Kx.alloc _ _ _ _
  have c0 : (w.alloc (.cells #[.int .i64 r, .int .u32 v, .int .u32 a, .int .i64 s, .int .u32 sv, .bool lv, .int .u32 to] 110)).cell? ⟨w.heap.size, 0, none⟩ = some (.int .i64 r) := by simp
  have c1 : (w.alloc (.cells #[.int .i64 r, .int .u32 v, .int .u32 a, .int .i64 s, .int .u32 sv, .bool lv, .int .u32 to] 110)).cell? ⟨w.heap.size, 1, none⟩ = some (.int .u32 v) := by simp
  have c2 : (w.alloc (.cells #[.int .i64 r, .int .u32 v, .int .u32 a, .int .i64 s, .int .u32 sv, .bool lv, .int .u32 to] 110)).cell? ⟨w.heap.size, 2, none⟩ = some (.int .u32 a) := by simp
  have c3 : (w.alloc (.cells #[.int .i64 r, .int .u32 v, .int .u32 a, .int .i64 s, .int .u32 sv, .bool lv, .int .u32 to] 110)).cell? ⟨w.heap.size, 3, none⟩ = some (.int .i64 s) := by simp
  have c4 : (w.alloc (.cells #[.int .i64 r, .int .u32 v, .int .u32 a, .int .i64 s, .int .u32 sv, .bool lv, .int .u32 to] 110)).cell? ⟨w.heap.size, 4, none⟩ = some (.int .u32 sv) := by simp
  have c5 : (w.alloc (.cells #[.int .i64 r, .int .u32 v, .int .u32 a, .int .i64 s, .int .u32 sv, .bool lv, .int .u32 to] 110)).cell? ⟨w.heap.size, 5, none⟩ = some (.bool lv) := by simp
  have c6 : (w.alloc (.cells #[.int .i64 r, .int .u32 v, .int .u32 a, .int .i64 s, .int .u32 sv, .bool lv, .int .u32 to] 110)).cell? ⟨w.heap.size, 6, none⟩ = some (.int .u32 to) := by simp
  have hmw := G.lt
  have hvb : ∀ k, vi.ownBlock = some k → k < w.heap.size := fun k hk => (G.blk k hk).1
  by_cases hr : r = 0
  · subst hr
    rw [if_pos rfl]
    by_cases hs : s = 0
    · subst hs
      rw [if_pos rfl]
      clear G h
      go_enter Tryz.func52, Tryz.ntmps52
      go_upto_region 5 with fail
      generalize w.alloc (.cells #[.int .i64 0, .int .u32 v, .int .u32 a, .int .i64 0, .int .u32 sv, .bool lv, .int .u32 to] 110) = V at *
      refine wp_region_phase 6 [(0, 0), (1, 1), (2, 0), (3, 1), (4, 0), (5, 0)] (fun W => W.cell? ⟨w.heap.size, 6, none⟩ = some (.int .u32 to) ∧ W.cell? ⟨w.heap.size, 5, none⟩ = some (.bool lv)) (by kernel_rfl) (by kernel_rfl) (fun _ _ _ d _ h => by cases d <;> exact h) ⟨c6, c5⟩ ?_
      repeat (first | (refine wpPlanZ_free (by rfl) (by rfl) (fun W => by (go_simp; try with_reducible rfl)) (fun K hK => ?_); go_simp; refine hK _ ?_; clear hK K) | (refine wpPlanZ_quiet (by rfl) (by rfl) (fun W hW => by (obtain ⟨z0, z1⟩ := hW; go_simp; try with_reducible rfl)) (fun K hK => ?_); go_simp; refine hK _ ?_; clear hK K))
      refine wpPlanZ_nil ?_
      go_wp2
      go_ret2
      exact ⟨rfl, p, vi, rfl, by omega, GH.out.drew, Moved.refl _ _, hB0.out.drew⟩
    · rw [if_neg hs]
      have hq : Pend.ok ⟨a, s, sv⟩ := (h.resolve_left hs).2
      have hsb : (s != 0) = true := by simp [hs]
      clear G h
      go_enter Tryz.func52, Tryz.ntmps52
      go_upto_region 4 with fail
      generalize w.alloc (.cells #[.int .i64 0, .int .u32 v, .int .u32 a, .int .i64 s, .int .u32 sv, .bool lv, .int .u32 to] 110) = V at *
      refine wp_region_phase 6 [(0, 0), (1, 0), (2, 0), (3, 0), (4, 1), (5, 2)] (fun W => W.cell? ⟨w.heap.size, 2, none⟩ = some (.int .u32 a) ∧ W.cell? ⟨w.heap.size, 3, none⟩ = some (.int .i64 s) ∧ W.cell? ⟨w.heap.size, 4, none⟩ = some (.int .u32 sv)) (by kernel_rfl) (by kernel_rfl) (fun _ _ _ d _ h => by cases d <;> exact h) ⟨c2, c3, c4⟩ ?_
      repeat (first | (refine wpPlanZ_free (by rfl) (by rfl) (fun W => by (go_simp; try with_reducible rfl)) (fun K hK => ?_); go_simp; refine hK _ ?_; clear hK K) | (refine wpPlanZ_quiet (by rfl) (by rfl) (fun W hW => by (obtain ⟨z0, z1, z2⟩ := hW; go_simp; try with_reducible rfl)) (fun K hK => ?_); go_simp; refine hK _ ?_; clear hK K))
      refine wpPlanZ_serial (by rfl) (by rfl) (fun K hK => ?_)
      go_simp
      refine (hold_any GH.out.drew hp ⟨⟨a, s, sv⟩, hq⟩).mono ?_
      rintro e w2 ⟨rfl, vi', G2, hm, hk⟩
      have hV : w.heap.size < V.drew.heap.size := World.block_lt_of_cell? V _ c0
      have cc : ∀ (j : Nat) (u : Value), V.cell? ⟨w.heap.size, j, none⟩ = some u → w2.cell? ⟨w.heap.size, j, none⟩ = some u := fun j u hu => (World.cell?_of_block (a := ⟨w.heap.size, j, none⟩) (hk.block w.heap.size hV (by omega) (fun e => by have := hvb _ e; omega))).trans hu
      have d2 := cc 2 _ c2
      have d3 := cc 3 _ c3
      have d4 := cc 4 _ c4
      have d5 := cc 5 _ c5
      have d6 := cc 6 _ c6
      refine hK _ _ (fun _ => ⟨d2, d3, d4⟩) ?_
      have hV2 : w.heap.size ≤ V.heap.size := Nat.le_of_lt hV
      clear hK K cc c0 c1 c2 c3 c4 c5 c6
      have c5 := d5
      have c6 := d6
      have hzz := World.block_lt_of_cell? _ _ d5
      clear d2 d3 d4 d5 d6
      have HG : Hid (GAt w2 base mb stb sb X (p ++ [⟨⟨a, s, sv⟩, hq⟩]) vi') := G2
      have HM : Hid (Moved w vi vi') := fun k hk => by
        rcases hm k hk with e | e
        · exact .inl e
        · exact .inr (by show w.heap.size ≤ k; have : V.drew.heap.size ≤ k := e; omega)
      have HK : Hid (Kx w w2 mb vi) := hB0.out.drew.trans hk
      clear G2 hm hk hB0 GH
      refine wpPlanZ_nil ?_
      go_upto_region 5 with fail
      refine wp_region_phase 6 [(0, 0), (1, 1), (2, 0), (3, 1), (4, 0), (5, 0)] (fun W => W.cell? ⟨w.heap.size, 6, none⟩ = some (.int .u32 to) ∧ W.cell? ⟨w.heap.size, 5, none⟩ = some (.bool lv)) (by kernel_rfl) (by kernel_rfl) (fun _ _ _ d _ h => by cases d <;> exact h) ⟨c6, c5⟩ ?_
      repeat (first | (refine wpPlanZ_free (by rfl) (by rfl) (fun W => by (go_simp; try with_reducible rfl)) (fun K hK => ?_); go_simp; refine hK _ ?_; clear hK K) | (refine wpPlanZ_quiet (by rfl) (by rfl) (fun W hW => by (obtain ⟨z0, z1⟩ := hW; go_simp; try with_reducible rfl)) (fun K hK => ?_); go_simp; refine hK _ ?_; clear hK K))
      refine wpPlanZ_nil ?_
      go_wp2
      go_ret2
      have hpq : pqs (p ++ [⟨⟨a, s, sv⟩, hq⟩]) = pqs p ++ [⟨a, s, sv⟩] := by unfold pqs; simp
      first | exact ⟨rfl, p ++ [⟨⟨a, s, sv⟩, hq⟩], vi', hpq, by simp, HG.out.drew, HM.out, HK.out.drew⟩ | exact ⟨rfl, p ++ [⟨⟨a, s, sv⟩, hq⟩], hpq, by simp, vi', HG.out.drew, HM.out, HK.out.drew⟩
  · rw [if_neg hr]
    have hs : s = 0 := by rcases h with h | h; exact h; exact absurd h.1 hr
    subst hs
    rw [if_pos rfl]
    have hrb : (r != 0) = true := by simp [hr]
    obtain ⟨d, rfl⟩ : ∃ n : Nat, r = n := ⟨r.toNat, by omega⟩
    have hd : d < 64 := by omega
    have hd' : (d : Int) < 64 := by omega
    have hne : w.heap.size ≠ mb := by omega
    clear G h
    go_enter Tryz.func52, Tryz.ntmps52
    go_upto_region 2 with fail
    generalize w.alloc (.cells #[.int .i64 d, .int .u32 v, .int .u32 a, .int .i64 0, .int .u32 sv, .bool lv, .int .u32 to] 110) = V at *
    have xd := GH.out.x d hd
    have fd := GH.out.fz (1 + d)
    refine wp_region_phase 8 [(0, 0), (1, 0), (2, 1), (3, 0), (4, 1), (5, 0), (6, 0), (7, 0), (8, 2)] (fun W => W.cell? ⟨w.heap.size, 0, none⟩ = some (.int .i64 d) ∧ W.cell? ⟨w.heap.size, 1, none⟩ = some (.int .u32 v)) (by kernel_rfl) (by kernel_rfl) (fun _ _ _ d _ h => by cases d <;> exact h) ⟨c0, c1⟩ ?_
    repeat (first | (refine wpPlanZ_free (by rfl) (by rfl) (fun W => by (go_simp; try with_reducible rfl)) (fun K hK => ?_); go_simp; refine hK _ ?_; clear hK K) | (refine wpPlanZ_quiet (by rfl) (by rfl) (fun W hW => by (obtain ⟨z0, z1⟩ := hW; go_simp; try with_reducible rfl)) (fun K hK => ?_); go_simp; refine hK _ ?_; clear hK K))
    refine wpPlanZ_serial (by rfl) (by rfl) (fun K hK => ?_)
    go_simp
    refine hK _ _ (fun h => absurd h (by decide)) ?_
    clear hK K
    refine wpPlanZ_nil ?_
    have cc : ∀ (j : Nat) (u : Value), V.cell? ⟨w.heap.size, j, none⟩ = some u → (V.setCell ⟨mb, 1 + d, none⟩ (.int .u32 v)).drew.cell? ⟨w.heap.size, j, none⟩ = some u := fun j u hu => (cell_drewG _ _).trans ((World.cell?_of_block (a := ⟨w.heap.size, j, none⟩) (Below.heap_setCell V ⟨mb, 1 + d, none⟩ _ w.heap.size hne)).trans hu)
    have d3 := cc 3 _ c3
    have d5 := cc 5 _ c5
    have d6 := cc 6 _ c6
    have HG : Hid (GAt (V.setCell ⟨mb, 1 + d, none⟩ (.int .u32 v)).drew base mb stb sb (setX X d v) p vi) := (GH.out.put d hd v hv).drew
    have HK : Hid (Kx w (V.setCell ⟨mb, 1 + d, none⟩ (.int .u32 v)).drew mb vi) := (hB0.out.setCell (1 + d) _).drew
    generalize (V.setCell ⟨mb, 1 + d, none⟩ (.int .u32 v)).drew = U at *
    clear cc c0 c1 c2 c3 c4 c5 c6 xd fd GH hB0
    have c3 := d3
    have c5 := d5
    have c6 := d6
    have hzz := World.block_lt_of_cell? _ _ d5
    clear d3 d5 d6
    go_upto_region 5 with fail
    refine wp_region_phase 6 [(0, 0), (1, 1), (2, 0), (3, 1), (4, 0), (5, 0)] (fun W => W.cell? ⟨w.heap.size, 6, none⟩ = some (.int .u32 to) ∧ W.cell? ⟨w.heap.size, 5, none⟩ = some (.bool lv)) (by kernel_rfl) (by kernel_rfl) (fun _ _ _ d _ h => by cases d <;> exact h) ⟨c6, c5⟩ ?_
    repeat (first | (refine wpPlanZ_free (by rfl) (by rfl) (fun W => by (go_simp; try with_reducible rfl)) (fun K hK => ?_); go_simp; refine hK _ ?_; clear hK K) | (refine wpPlanZ_quiet (by rfl) (by rfl) (fun W hW => by (obtain ⟨z0, z1⟩ := hW; go_simp; try with_reducible rfl)) (fun K hK => ?_); go_simp; refine hK _ ?_; clear hK K))
    refine wpPlanZ_nil ?_
    go_wp2
    go_ret2
    first | exact ⟨rfl, p, vi, rfl, by omega, HG.out.drew, Moved.refl _ _, HK.out.drew⟩ | exact ⟨rfl, p, rfl, by omega, vi, HG.out.drew, Moved.refl _ _, HK.out.drew⟩
end
end Go.Proofs.YtjkencgcdlfjhaaGreatDoor
/-
  The document's RunOf: what it holds of the world on its way.
-/
namespace Go.Proofs.YtjkencgcdlfjhaaGreatDoor
open Go.RowKit Go.Maps
open Num
set_option linter.unusedVariables false
/-- the machine and its memory, on their way -/
structure RnAt (V W : World) (mb rb gb kb : Nat) (x m : Nat → Int) (wt : Int → Bool) : Prop where
  bx : MBox W mb x (.pointer (some ⟨rb, 0, none⟩))
  d : DRam W rb gb kb m wt
  b : Below V.heap.size V W
theorem RnAt.blocks {V W W' : World} {base mb rb gb kb : Nat} {x m : Nat → Int} {wt : Int → Bool} (R : RnAt V W mb rb gb kb x m wt) (hV : V.heap.size ≤ base) (h1 : mb < base) (h2 : rb < base) (h3 : gb < base) (h4 : kb < base) (h : Below base W W') : RnAt V W' mb rb gb kb x m wt :=
  ⟨R.bx.block (h.block _ h1), R.d.blocks (fun k hk => h.block k (by rcases hk with rfl | rfl | rfl <;> assumption)), R.b.trans (h.mono hV)⟩
theorem RnAt.drew {V W : World} {mb rb gb kb : Nat} {x m : Nat → Int} {wt : Int → Bool} (R : RnAt V W mb rb gb kb x m wt) : RnAt V W.drew mb rb gb kb x m wt := ⟨R.bx.drew, R.d.blocks fun _ _ => rfl, R.b.drew⟩
theorem RnAt.setx {V W : World} {mb rb gb kb : Nat} {x m : Nat → Int} {wt : Int → Bool} (R : RnAt V W mb rb gb kb x m wt) (hV : V.heap.size ≤ mb) (h2 : rb ≠ mb) (h3 : gb ≠ mb) (h4 : kb ≠ mb) (i : Nat) (hi : i < 64) (v : Int) (x' : Nat → Int) (h : ∀ j, j < 64 → x' j = if j = i then v else x j) : RnAt V (W.setCell ⟨mb, i, none⟩ (.int .u32 v)).drew mb rb gb kb x' m wt :=
  ⟨(R.bx.put i hi v h).drew, R.d.blocks (fun k hk => Below.heap_setCell W ⟨mb, i, none⟩ _ k (by rcases hk with rfl | rfl | rfl <;> assumption)), (R.b.setCell hV _).drew⟩
theorem RnAt.store {V W W' : World} {mb rb gb kb : Nat} {x m m' : Nat → Int} {wt : Int → Bool} (R : RnAt V W mb rb gb kb x m wt) (hV : V.heap.size ≤ gb) (h1 : mb ≠ gb) (D : DRam W' rb gb kb m' wt) (g : W.grownBy W' (some gb)) : RnAt V W' mb rb gb kb x m' wt :=
  ⟨R.bx.block (g.block _ R.bx.lt (by intro e; exact h1 (Option.some.inj e))), D, ⟨g.os.trans R.b.os, g.tape.trans R.b.tape, g.output.trans R.b.output, Nat.le_trans R.b.size g.size, fun k hk => (g.block k (Nat.lt_of_lt_of_le hk R.b.size) (by intro e; have := Option.some.inj e; omega)).trans (R.b.block k hk)⟩⟩
structure Ck22 (W : World) (mb rb g q xb : Nat) (ro : Ro) (o : Opx) : Prop where
  a : W.cell? ⟨mb, 64, none⟩ = some (.pointer (some ⟨rb, 0, none⟩))
  b : W.cell? ⟨g, q + 1, none⟩ = some (.int .u32 ro.a)
  c : W.cell? ⟨xb, 1, none⟩ = some (.int .i64 o.d)
  d : W.cell? ⟨g, q, none⟩ = some (.int .u32 ro.v)
/-- a state that was left -/
def stF (f : Nat → Value) (M : Mz) (many ct : Int) (j : Nat) : Value :=
  if 1 ≤ j ∧ j < 34 then .int .u32 (M.x j) else if j = 34 then .int .u32 M.lv else if j = 35 then .int .u32 (lo (M.lv + 4)) else if j = 42 then .int .i64 (ct + many) else f j
def wbF (f : Nat → Value) (X : Nat → Int) (k j : Nat) : Value := if 1 ≤ j ∧ j < k then .int .u32 (X j) else f j
theorem wbF_succ (f : Nat → Value) (X : Nat → Int) (k j : Nat) (hk : 1 ≤ k) : wbF f X (k + 1) j = if j = k then .int .u32 (X k) else wbF f X k j := by
  unfold wbF
  by_cases e : j = k
  · subst e; rw [if_pos rfl, if_pos (by omega)]
  · rw [if_neg e]
    by_cases h : 1 ≤ j ∧ j < k
    · rw [if_pos h, if_pos (by omega)]
    · rw [if_neg h, if_neg (by omega)]
theorem RowIs.congrP {w : World} {b : Nat} {t : TypeId} {n : Nat} {f g : Nat → Value} (h : RowIs w b t n f) (e : ∀ j, j < n → g j = f j) : RowIs w b t n g := by
  obtain ⟨cur, h1, h2, h3⟩ := h
  exact ⟨cur, h1, h2, fun j hj => by rw [h3 j hj, e j hj]⟩
/-- a state that is being written back -/
structure LvAt (wL W : World) (sb : Nat) (g : Nat → Value) : Prop where
  s : RowIs W sb 26 43 g
  g : wL.grownBy W (some sb)
theorem LvAt.block {wL W : World} {sb : Nat} {g : Nat → Value} (A : LvAt wL W sb g) (k : Nat) (hk : k < wL.heap.size) (h : k ≠ sb) : W.heap[k]? = wL.heap[k]? := A.g.block k hk (by intro e; exact h (Option.some.inj e))
theorem LvAt.put {wL W : World} {sb : Nat} {g : Nat → Value} (A : LvAt wL W sb g) (i : Nat) (v : Value) (g' : Nat → Value) (hg : g' i = v) (ho : ∀ j, j < 43 → j ≠ i → g' j = g j) : LvAt wL (W.setCell ⟨sb, i, none⟩ v) sb g' := ⟨RowIs.put A.s i v g' hg ho, grown_trans A.g (grown_set _ _)⟩
theorem LvAt.drew {wL W : World} {sb : Nat} {g : Nat → Value} (A : LvAt wL W sb g) : LvAt wL W.drew sb g := ⟨A.s, ⟨A.g.os, A.g.tape, A.g.output, A.g.size, A.g.block⟩⟩
/-- how it ends -/
def RunPost (w : World) (sb rb : Nat) (f : Nat → Value) (many ct : Int) : Oz → Ending → World → Prop
  | .trap t, e, w' => e = .returned (.agg #[.bool true, .int .i64 t, .bool false]) ∧ Below w.heap.size w w'
  | .fell, e, w' => e = .returned (.agg #[.bool false, .int .i64 0, .bool true]) ∧ Below w.heap.size w w'
  | .leave M, e, w' => e = .returned (.agg #[.bool false, .int .i64 0, .bool false]) ∧ RowIs w' sb 26 43 (stF f M many ct) ∧ (∃ gb', w'.cell? ⟨rb, 0, none⟩ = some (.slice (some ⟨gb', 0, none⟩) 4096 4096) ∧ w.heap.size ≤ gb' ∧ ∀ i, i < 4096 → w'.cell? ⟨gb', i, none⟩ = some (.int .u32 (M.m i))) ∧ (∀ k, k < w.heap.size → k ≠ sb → k ≠ rb → w'.heap[k]? = w.heap[k]?) ∧ w.heap.size ≤ w'.heap.size ∧ w'.os = w.os ∧ w'.tape = w.tape ∧ w'.output = w.output
/-- where an end is written -/
structure EBox (W : World) (x : Nat) : Prop where
  c0 : ∃ u, W.cell? ⟨x, 0, none⟩ = some u
  c1 : ∃ u, W.cell? ⟨x, 1, none⟩ = some u
  c2 : ∃ u, W.cell? ⟨x, 2, none⟩ = some u
  f : ∀ j, W.frozen? ⟨x, j, none⟩ = false
theorem EBox.lt {W : World} {x : Nat} (F : EBox W x) : x < W.heap.size := by obtain ⟨⟨u, a⟩, _⟩ := F; exact World.block_lt_of_cell? _ _ a
theorem EBox.block {W W' : World} {x : Nat} (F : EBox W x) (h : W'.heap[x]? = W.heap[x]?) : EBox W' x := by
  obtain ⟨⟨u, a⟩, ⟨v, b⟩, ⟨t, c⟩, d⟩ := F
  exact ⟨⟨u, (World.cell?_of_block (a := ⟨x, 0, none⟩) h).trans a⟩, ⟨v, (World.cell?_of_block (a := ⟨x, 1, none⟩) h).trans b⟩, ⟨t, (World.cell?_of_block (a := ⟨x, 2, none⟩) h).trans c⟩, fun j => (World.frozen?_of_block (a := ⟨x, j, none⟩) h).trans (d j)⟩
theorem EBox.new (w : World) : EBox (w.alloc (.cells #[.bool false, .int .i64 0, .bool false] 56)) w.heap.size := ⟨⟨.bool false, by simp⟩, ⟨.int .i64 0, by simp⟩, ⟨.bool false, by simp⟩, fun j => World.frozen?_alloc_at _ _ _ _ rfl⟩
theorem end_load {w : World} {B : Nat} {a b c : Value} (z0 : w.cell? ⟨B, 0, none⟩ = some a) (z1 : w.cell? ⟨B, 1, none⟩ = some b) (z2 : w.cell? ⟨B, 2, none⟩ = some c) : (loadVar 56 ⟨B, 0, none⟩).run Tryz.prog w = .ok (.agg #[a, b, c]) w := by
  simp [go_sem, z0, z1, z2]
theorem ofsE {B i j : Nat} (h : i ≠ j) : (⟨B, i, none⟩ : Addr) ≠ ⟨B, j, none⟩ := by intro e; injection e with e1 e2; exact h e2
theorem end_put {W : World} {B : Nat} (F : EBox W B) (v0 v1 v2 : Value) : (loadVar 56 ⟨B, 0, none⟩).run Tryz.prog (((W.setCell ⟨B, 0, none⟩ v0).setCell ⟨B, 1, none⟩ v1).setCell ⟨B, 2, none⟩ v2) = .ok (.agg #[v0, v1, v2]) (((W.setCell ⟨B, 0, none⟩ v0).setCell ⟨B, 1, none⟩ v1).setCell ⟨B, 2, none⟩ v2) := by
  obtain ⟨⟨u0, z0⟩, ⟨u1, z1⟩, ⟨u2, z2⟩, _⟩ := F
  have a1 := World.cell?_setCell_same W ⟨B, 0, none⟩ v0 z0
  have a2 : (W.setCell ⟨B, 0, none⟩ v0).cell? ⟨B, 1, none⟩ = some u1 := by rw [World.cell?_setCell_other _ _ _ _ (ofsE (by omega))]; exact z1
  have a3 : (W.setCell ⟨B, 0, none⟩ v0).cell? ⟨B, 2, none⟩ = some u2 := by rw [World.cell?_setCell_other _ _ _ _ (ofsE (by omega))]; exact z2
  have b1 := World.cell?_setCell_same (W.setCell ⟨B, 0, none⟩ v0) ⟨B, 1, none⟩ v1 a2
  have b3 : ((W.setCell ⟨B, 0, none⟩ v0).setCell ⟨B, 1, none⟩ v1).cell? ⟨B, 2, none⟩ = some u2 := by rw [World.cell?_setCell_other _ _ _ _ (ofsE (by omega))]; exact a3
  have b0 : ((W.setCell ⟨B, 0, none⟩ v0).setCell ⟨B, 1, none⟩ v1).cell? ⟨B, 0, none⟩ = some v0 := by rw [World.cell?_setCell_other _ _ _ _ (ofsE (by omega))]; exact a1
  exact end_load (by rw [World.cell?_setCell_other _ _ _ _ (ofsE (by omega))]; exact b0) (by rw [World.cell?_setCell_other _ _ _ _ (ofsE (by omega))]; exact b1) (World.cell?_setCell_same _ _ _ b3)
theorem nwX_bd {r : Nat → Int} (h : ∀ j, j < 34 → 0 ≤ r j ∧ r j < 4294967296) : ∀ i, i < 64 → 0 ≤ nwX r 34 i ∧ nwX r 34 i < 4294967296 := by
  intro i hi
  unfold nwX
  split
  · exact h i (by omega)
  · omega
theorem rowZ_lv {wt : Int → Bool} {x m : Nat → Int} {many : Int} (hx : ∀ i, i < 64 → 0 ≤ x i ∧ x i < 4294967296) (mb : ∀ i, 0 ≤ m i ∧ m i < 4294967296) : ∀ (row : List Opx) (M : Mz), (∀ o ∈ row, o.ok ∧ opE o many = 0) → (M.lv = -1 ∨ u32 M.lv) → ((row.foldl (fun M o => appZ M o (resZ wt x m o)) M).lv = -1 ∨ u32 (row.foldl (fun M o => appZ M o (resZ wt x m o)) M).lv)
  | [], M, _, h => h
  | o :: row, M, hw, h => by
    refine rowZ_lv hx mb row _ (fun q hq => hw q (by simp [hq])) ?_
    show (if (resZ wt x m o).leave = true then (resZ wt x m o).a else M.lv) = -1 ∨ u32 (if (resZ wt x m o).leave = true then (resZ wt x m o).a else M.lv)
    split
    · exact .inr (resZ_bd (hw o (by simp)).1 (hw o (by simp)).2 hx mb).2
    · exact h
theorem rowZ_xbd {wt : Int → Bool} {x m : Nat → Int} {many : Int} (hx : ∀ i, i < 64 → 0 ≤ x i ∧ x i < 4294967296) (mb : ∀ i, 0 ≤ m i ∧ m i < 4294967296) : ∀ (row : List Opx) (M : Mz), (∀ o ∈ row, o.ok ∧ opE o many = 0) → (∀ i, i < 64 → 0 ≤ M.x i ∧ M.x i < 4294967296) → ∀ i, i < 64 → 0 ≤ (row.foldl (fun M o => appZ M o (resZ wt x m o)) M).x i ∧ (row.foldl (fun M o => appZ M o (resZ wt x m o)) M).x i < 4294967296
  | [], M, _, h => h
  | o :: row, M, hw, h => rowZ_xbd hx mb row _ (fun q hq => hw q (by simp [hq])) (appZ_bd h (resZ_bd (hw o (by simp)).1 (hw o (by simp)).2 hx mb).1)
theorem runZ_cons (wt : Int → Bool) (row : List Opx) (rows : List (List Opx)) (x m : Nat → Int) : runZ wt (row :: rows) x m = match trapZ wt x m row with
    | some t => .trap t
    | none => if (rowZ wt x m row).lv < 0 then runZ wt rows (rowZ wt x m row).x (rowZ wt x m row).m else .leave (rowZ wt x m row) := rfl
/-- what region 9 reads -/
structure Ck9 (W : World) (mb rb b o1 b1 o2 : Nat) (x : Nat → Int) (u : Value) (o : Opx) : Prop where
  bx : MBox W mb x (.pointer (some ⟨rb, 0, none⟩))
  c : W.cell? ⟨b, o1, none⟩ = some u
  c0 : W.cell? ⟨b1, o2, none⟩ = some (.string o.s)
  c1 : W.cell? ⟨b1, o2 + 1, none⟩ = some (.int .i64 o.d)
  c2 : W.cell? ⟨b1, o2 + 2, none⟩ = some (.int .i64 o.a)
  c3 : W.cell? ⟨b1, o2 + 3, none⟩ = some (.int .i64 o.b)
  c4 : W.cell? ⟨b1, o2 + 4, none⟩ = some (.int .u32 o.i)
  c5 : W.cell? ⟨b1, o2 + 5, none⟩ = some (.int .i64 o.t)
theorem Ck9.blocks {W W' : World} {mb rb b o1 b1 o2 : Nat} {x : Nat → Int} {u : Value} {o : Opx} (C : Ck9 W mb rb b o1 b1 o2 x u o) (h1 : W'.heap[mb]? = W.heap[mb]?) (h2 : W'.heap[b]? = W.heap[b]?) (h3 : W'.heap[b1]? = W.heap[b1]?) : Ck9 W' mb rb b o1 b1 o2 x u o :=
  have c : ∀ j, W'.cell? ⟨b1, j, none⟩ = W.cell? ⟨b1, j, none⟩ := fun j => World.cell?_of_block (a := ⟨b1, j, none⟩) h3
  ⟨C.bx.block h1, (World.cell?_of_block (a := ⟨b, o1, none⟩) h2).trans C.c, (c _).trans C.c0, (c _).trans C.c1, (c _).trans C.c2, (c _).trans C.c3, (c _).trans C.c4, (c _).trans C.c5⟩
/-- a result in its box -/
structure RoB (W : World) (x : Nat) (r : Ro) : Prop where
  c0 : W.cell? ⟨x, 0, none⟩ = some (.int .u32 r.v)
  c1 : W.cell? ⟨x, 1, none⟩ = some (.int .u32 r.a)
  c2 : W.cell? ⟨x, 2, none⟩ = some (.bool r.trap)
  c3 : W.cell? ⟨x, 3, none⟩ = some (.bool r.leave)
theorem putRo {w : World} {B : Nat} {u0 u1 u2 u3 : Value} (r : Ro) (z0 : w.cell? ⟨B, 0, none⟩ = some u0) (z1 : w.cell? ⟨B, 1, none⟩ = some u1) (z2 : w.cell? ⟨B, 2, none⟩ = some u2) (z3 : w.cell? ⟨B, 3, none⟩ = some u3) : RoB ((((w.setCell ⟨B, 0, none⟩ (.int .u32 r.v)).setCell ⟨B, 1, none⟩ (.int .u32 r.a)).setCell ⟨B, 2, none⟩ (.bool r.trap)).setCell ⟨B, 3, none⟩ (.bool r.leave)) B r := by
  have o : ∀ {W : World} {i j : Nat} {v t : Value}, i ≠ j → W.cell? ⟨B, j, none⟩ = some t → (W.setCell ⟨B, i, none⟩ v).cell? ⟨B, j, none⟩ = some t := fun {W i j v t} h e => by rw [World.cell?_setCell_other _ _ _ _ (ofsE h)]; exact e
  exact ⟨o (by omega) (o (by omega) (o (by omega) (World.cell?_setCell_same _ _ _ z0))), o (by omega) (o (by omega) (World.cell?_setCell_same _ _ _ (o (by omega) z1))), o (by omega) (World.cell?_setCell_same _ _ _ (o (by omega) (o (by omega) z2))), World.cell?_setCell_same _ _ _ (o (by omega) (o (by omega) (o (by omega) z3)))⟩
end Go.Proofs.YtjkencgcdlfjhaaGreatDoor
/-
  An effect as the document has it.
-/
namespace Go.Proofs.YtjkencgcdlfjhaaGreatDoor
open Go.RowKit Go.Maps
open Num
set_option linter.unusedVariables false
/-- what an op that does not trap does -/
structure EfOk (wt : Int → Bool) (o : Opx) (ro : Ro) (E : Ef) : Prop where
  r0 : 0 ≤ E.r
  r1 : E.r < 64
  v : u32 E.v
  s : E.s = 0 ∨ E.r = 0 ∧ Pend.ok ⟨E.a, E.s, E.sv⟩
  x : ∀ (Y l : Nat → Int) (lv : Int), doX E Y = (appZ ⟨Y, l, lv⟩ o ro).x
  m : ∀ (mm : Nat → Int) (L : List Pend) (Y : Nat → Int) (lv : Int), vw mm (doP E L) = (appZ ⟨Y, vw mm L, lv⟩ o ro).m
  w : E.s ≠ 0 → wt (E.a / 256) = false
  lv : E.lv = ro.leave
  to : ro.leave = true → E.to = ro.a
theorem wr_val {o : Opx} (h : 1 ≤ o.k ∧ o.k ≤ 20 ∨ o.k = 23) : wrX o = o.d := by unfold wrX rD; rw [if_pos (by rw [if_pos h])]
theorem wr_none {o : Opx} (h : o.k = 21 ∨ o.k = 22 ∨ 24 ≤ o.k) : wrX o = 0 := by
  unfold wrX rD
  rw [if_neg]
  rw [if_neg (by omega)]
  split <;> omega
theorem efOk {o : Opx} {many : Int} (hw : opE o many = 0) (ok : o.ok) {wt : Int → Bool} {X M : Nat → Int} (hX : ∀ i, i < 64 → 0 ≤ X i ∧ X i < 4294967296) (mb : ∀ i, 0 ≤ M i ∧ M i < 4294967296) (ht : (resZ wt X M o).trap = false) : EfOk wt o (resZ wt X M o) (efO o (resZ wt X M o)) := by
  obtain ⟨vbd, abd⟩ := resZ_bd (wt := wt) ok hw hX mb
  obtain ⟨k0, _, _, _, hd, _⟩ := opE_flds hw
  have k0 : o.k ≠ 0 := k0
  have hlt : o.k < 28 := kn_lt o.s
  have z : u32 0 := ⟨by omega, by omega⟩
  have hcs : (1 ≤ o.k ∧ o.k ≤ 20 ∨ o.k = 23) ∨ (o.k = 21 ∨ o.k = 22) ∨ o.k = 24 ∨ 25 ≤ o.k := by omega
  rcases hcs with hk | hk | hk | hk
  · have hE : efO o (resZ wt X M o) = ⟨o.d, (resZ wt X M o).v, 0, 0, 0, false, 0⟩ := by unfold efO; rw [if_neg (by omega), if_neg (by omega), if_neg (by omega)]
    have hdd := hd hk
    have hwr := wr_val hk
    have hlv : (resZ wt X M o).leave = false := by
      rcases hk with hk | hk
      · rw [resZ_val hk.2]
      · unfold resZ
        rw [if_neg (by omega), if_neg (by omega), if_pos hk]
        generalize (if o.b < 0 then -o.b else o.b) = n
        split <;> rfl
    generalize resZ wt X M o = ro at *
    rw [hE]
    refine ⟨by show 0 ≤ o.d; omega, by show o.d < 64; omega, vbd, .inl rfl, fun Y l lv => ?_, fun mm L Y lv => ?_, fun h => absurd rfl h, hlv.symm, fun h => by rw [hlv] at h; cases h⟩
    · show (if o.d = 0 then Y else setX Y o.d ro.v) = (if 0 < wrX o then setX Y (wrX o) ro.v else Y)
      rw [hwr, if_neg (by omega), if_pos (by omega)]
    · show vw mm (if (0 : Int) = 0 then L else _) = (if o.k = 24 then _ else vw mm L)
      rw [if_pos rfl, if_neg (by omega)]
  · have hE : efO o (resZ wt X M o) = ⟨0, 0, 0, 0, 0, false, 0⟩ := by unfold efO; rw [if_pos hk]
    have hwr := wr_none (o := o) (by omega)
    have hlv : (resZ wt X M o).leave = false := by
      unfold resZ
      rcases hk with hk | hk
      · rw [if_pos hk]
      · rw [if_neg (by omega), if_pos hk]
    generalize resZ wt X M o = ro at *
    rw [hE]
    refine ⟨by show (0 : Int) ≤ 0; omega, by show (0 : Int) < 64; omega, z, .inl rfl, fun Y l lv => ?_, fun mm L Y lv => ?_, fun h => absurd rfl h, hlv.symm, fun h => by rw [hlv] at h; cases h⟩
    · show (if (0 : Int) = 0 then Y else _) = (if 0 < wrX o then setX Y (wrX o) ro.v else Y)
      rw [hwr, if_pos rfl, if_neg (by omega)]
    · show vw mm (if (0 : Int) = 0 then L else _) = (if o.k = 24 then _ else vw mm L)
      rw [if_pos rfl, if_neg (by omega)]
  · have hE : efO o (resZ wt X M o) = ⟨0, 0, (resZ wt X M o).a, o.d, (resZ wt X M o).v, false, 0⟩ := by unfold efO; rw [if_neg (by omega), if_pos hk]
    have hwr := wr_none (o := o) (by omega)
    obtain ⟨hc, hwt⟩ := resZ_store hk ht
    have hlv : (resZ wt X M o).leave = false := by
      unfold resZ
      rw [if_neg (by omega), if_neg (by omega), if_neg (by omega), if_pos hk]
      split <;> rfl
    have hd0 : o.d ≠ 0 := by
      intro h
      have := (chk_ok hc).1
      omega
    generalize resZ wt X M o = ro at *
    rw [hE]
    refine ⟨by show (0 : Int) ≤ 0; omega, by show (0 : Int) < 64; omega, z, .inr ⟨rfl, ⟨hc, abd.1, vbd.1, vbd.2⟩⟩, fun Y l lv => ?_, fun mm L Y lv => ?_, fun _ => hwt, hlv.symm, fun h => by rw [hlv] at h; cases h⟩
    · show (if (0 : Int) = 0 then Y else _) = (if 0 < wrX o then setX Y (wrX o) ro.v else Y)
      rw [hwr, if_pos rfl, if_neg (by omega)]
    · show vw mm (if o.d = 0 then L else L ++ [⟨ro.a, o.d, ro.v⟩]) = (if o.k = 24 then upd (vw mm L) ro.a o.d ro.v else vw mm L)
      rw [if_neg hd0, if_pos hk, vw_snoc]; rfl
  · have hE : efO o (resZ wt X M o) = ⟨0, 0, 0, 0, 0, (resZ wt X M o).leave, (resZ wt X M o).a⟩ := by unfold efO; rw [if_neg (by omega), if_neg (by omega), if_pos hk]
    have hwr := wr_none (o := o) (by omega)
    generalize resZ wt X M o = ro at *
    rw [hE]
    refine ⟨by show (0 : Int) ≤ 0; omega, by show (0 : Int) < 64; omega, z, .inl rfl, fun Y l lv => ?_, fun mm L Y lv => ?_, fun h => absurd rfl h, rfl, fun h => rfl⟩
    · show (if (0 : Int) = 0 then Y else _) = (if 0 < wrX o then setX Y (wrX o) ro.v else Y)
      rw [hwr, if_pos rfl, if_neg (by omega)]
    · show vw mm (if (0 : Int) = 0 then L else _) = (if o.k = 24 then _ else vw mm L)
      rw [if_pos rfl, if_neg (by omega)]
end Go.Proofs.YtjkencgcdlfjhaaGreatDoor
