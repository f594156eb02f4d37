/-
  The functions of package bus, but for New and Copy.
-/
import Derived.Test.YtmfhimphlackiaaDoorBus
namespace Go.Proofs.YtmfhimphlackiaaDoor
open Go.RowKit Go.Maps
open Num
set_option linter.unusedVariables false
/-- does a device answer? -/
def dev (a s : Int) : Bool := decide (s = 4 ∧ a % 4 = 0 ∧ 65536 ≤ a ∧ a ≤ 65548)
theorem isDevice_any (a s : Int) (h0 : 0 ≤ a) (h1 : a < 4294967296) (s0 : -9223372036854775808 ≤ s) (s1 : s ≤ 9223372036854775807) (w : World) : Calls Tryd.prog 53 #[.int .u32 a, .int .i64 s] w fun e w' => e = .returned (.bool (dev a s)) ∧ w' = w := by
  by_cases h4 : s = 4
  · have e4 : (s == 4) = true := by simpa using h4
    by_cases hm : a % 4 = 0
    · have em : (a % 4 == 0) = true := by simpa using hm
      by_cases hl : 65536 ≤ a
      · by_cases hh : a ≤ 65548
        · have hd : dev a s = true := by unfold dev; simp [h4, hm, hl, hh]
          rw [hd]; clear hd hm
          subst h4
          go_enter Tryd.func53, Tryd.ntmps53
          go_wp2
          go_ret
          exact ⟨rfl, rfl⟩
        · have hd : dev a s = false := by unfold dev; simp [hh]
          rw [hd]; clear hd hm
          subst h4
          go_enter Tryd.func53, Tryd.ntmps53
          go_wp2
          go_ret
          exact ⟨rfl, rfl⟩
      · have hd : dev a s = false := by unfold dev; simp; omega
        rw [hd]; clear hd hm
        subst h4
        go_enter Tryd.func53, Tryd.ntmps53
        go_wp2
        go_ret
        exact ⟨rfl, rfl⟩
    · have em : (a % 4 == 0) = false := by simpa using hm
      have hd : dev a s = false := by unfold dev; simp [hm]
      rw [hd]; clear hd hm
      subst h4
      go_enter Tryd.func53, Tryd.ntmps53
      go_wp2
      go_ret
      exact ⟨rfl, rfl⟩
  · have e4 : (s == 4) = false := by simpa using h4
    have hd : dev a s = false := by unfold dev; simp [h4]
    rw [hd]; clear hd h4
    go_enter Tryd.func53, Tryd.ntmps53
    go_wp2
    go_ret
    exact ⟨rfl, rfl⟩
theorem rows_apart {w : World} {base e e' : Nat} {s s' n n' : Nat} {v v' : Value} {xs xs' : List Value} (h : w.ownsRow base e s v n xs) (h' : w.ownsRow base e' s' v' n' xs') (hne : e ≠ e') {k : Nat} (hk : v.ownBlock = some k) : v'.ownBlock ≠ some k := by
  intro hk'
  rcases h.2 with ⟨rfl, _⟩ | ⟨g, cap, cur, rfl, hb, hg, _⟩
  · simp [Value.ownBlock] at hk
  · rcases h'.2 with ⟨rfl, _⟩ | ⟨g', cap', cur', rfl, hb', hg', _⟩
    · simp [Value.ownBlock] at hk'
    · simp [Value.ownBlock] at hk hk'
      subst hk; subst hk'
      rw [hg] at hg'
      injection hg' with e1
      injection e1 with e2 e3 e4
      exact hne e3
section
variable {w : World} {base bb sb bp bw bh N : Nat} {m : Nat → Int} {wt ht : Int → Bool} {out : List Int} {lamp : Int} {tr : List Acc} {vo vt : Value}
theorem BusIs.putOut (B : BusIs w base bb sb bp bw bh N m wt ht out lamp tr vo vt) {o : Obj} {w1 : World} {v' : Value} {x : Int} (ho : w1.ownsRow base 5 1 v' (out.length + 1) (outC out ++ [.int .u8 x])) (hg : (w.alloc o).grownBy w1 vo.ownBlock) (hm : Moved (w.alloc o) vo v') :
    (w1.cell? ⟨bb, 1, none⟩ = some vo ∧ w1.frozen? ⟨bb, 1, none⟩ = false) ∧ BusIs (w1.setCell ⟨bb, 1, none⟩ v') base bb sb bp bw bh N m wt ht (out ++ [x]) lamp tr v' vt ∧ BTurned w (w1.setCell ⟨bb, 1, none⟩ v') bb bp bh vo vt ∧ Moved w vo v' := by
  have hz : w.heap.size < w1.heap.size := by have := hg.size; simp at this; omega
  have hmw : Moved w vo v' := fun k hk => (hm k hk).imp id (fun h => by simp at h; omega)
  have hk : ∀ k, k < w.heap.size → vo.ownBlock ≠ some k → w1.heap[k]? = w.heap[k]? := fun k hk h => (hg.block k (by simp; omega) (fun e => h e.symm)).trans (Below.heap_alloc w o k hk)
  have hlow : ∀ k, k < base → w1.heap[k]? = w.heap[k]? := fun k hb => hk k (by have := B.bs; omega) (fun e => by have := (B.ro.lt k e).1; omega)
  have hs := hlow bb B.lb
  have c : ∀ (j : Nat) (v : Value), w.cell? ⟨bb, j, none⟩ = some v → w1.cell? ⟨bb, j, none⟩ = some v := fun j v e => (World.cell?_of_block (a := ⟨bb, j, none⟩) hs).trans e
  have f : ∀ j, w1.frozen? ⟨bb, j, none⟩ = false := fun j => (World.frozen?_of_block (a := ⟨bb, j, none⟩) hs).trans (B.fz j)
  have oth : ∀ (j : Nat) (v : Value), j ≠ 1 → w.cell? ⟨bb, j, none⟩ = some v → (w1.setCell ⟨bb, 1, none⟩ v').cell? ⟨bb, j, none⟩ = some v := fun j v hj e => by
    rw [World.cell?_setCell_other _ _ _ _ (by intro e; injection e with e1 e2; exact hj e2.symm)]; exact c j v e
  have blk : ∀ k, k ≠ bb → (w1.setCell ⟨bb, 1, none⟩ v').heap[k]? = w1.heap[k]? := fun k h => Below.heap_setCell w1 ⟨bb, 1, none⟩ v' k h
  refine ⟨⟨c _ _ B.c1, f 1⟩, ⟨oth 0 _ (by omega) B.c0, World.cell?_setCell_same _ _ _ (c _ _ B.c1), oth 2 _ (by omega) B.c2, oth 3 _ (by omega) B.c3, fun j => by rw [World.frozen?_setCell]; exact f j, ?_, ?_, ?_, B.lb, B.ls, B.lp, B.lw, B.lh, B.ns, B.np, B.nw, B.nh, ?_⟩, ?_, hmw⟩
  · rw [List.length_append, ← outC_add]
    refine owns_blocks ho fun k e => blk k ?_
    have := (ho.lt k e).1; have := B.lb; omega
  · refine owns_blocks B.rt fun k e => (blk k ?_).trans (hk k (B.rt.lt k e).2 ?_)
    · have := (B.rt.lt k e).1; have := B.lb; omega
    · intro e2; exact rows_apart B.ro B.rt (by decide) e2 e
  · refine B.R.blocks fun k e => ?_
    have h1 := B.ns; have h2 := B.np; have h3 := B.nw; have h4 := B.nh; have l1 := B.ls; have l2 := B.lp; have l3 := B.lw; have l4 := B.lh
    exact (blk k (by omega)).trans (hlow k (by omega))
  · have := B.bs; simp; omega
  · refine ⟨hg.os, hg.tape, hg.output, by simp; omega, fun k hkk h0 h1 h2 h3 h4 => (blk k h0).trans (hk k hkk h3)⟩
theorem BusIs.putTr (B : BusIs w base bb sb bp bw bh N m wt ht out lamp tr vo vt) {o : Obj} {w1 : World} {v' : Value} {x : Acc} (ho : w1.ownsRow base 98 4 v' (tr.length + 1) (tr.flatMap accC ++ accC x)) (hg : (w.alloc o).grownBy w1 vt.ownBlock) (hm : Moved (w.alloc o) vt v') :
    (w1.cell? ⟨bb, 3, none⟩ = some vt ∧ w1.frozen? ⟨bb, 3, none⟩ = false) ∧ BusIs (w1.setCell ⟨bb, 3, none⟩ v') base bb sb bp bw bh N m wt ht out lamp (tr ++ [x]) vo v' ∧ BTurned w (w1.setCell ⟨bb, 3, none⟩ v') bb bp bh vo vt ∧ Moved w vt v' := by
  have hz : w.heap.size < w1.heap.size := by have := hg.size; simp at this; omega
  have hmw : Moved w vt v' := fun k hk => (hm k hk).imp id (fun h => by simp at h; omega)
  have hk : ∀ k, k < w.heap.size → vt.ownBlock ≠ some k → w1.heap[k]? = w.heap[k]? := fun k hk h => (hg.block k (by simp; omega) (fun e => h e.symm)).trans (Below.heap_alloc w o k hk)
  have hlow : ∀ k, k < base → w1.heap[k]? = w.heap[k]? := fun k hb => hk k (by have := B.bs; omega) (fun e => by have := (B.rt.lt k e).1; omega)
  have hs := hlow bb B.lb
  have c : ∀ (j : Nat) (v : Value), w.cell? ⟨bb, j, none⟩ = some v → w1.cell? ⟨bb, j, none⟩ = some v := fun j v e => (World.cell?_of_block (a := ⟨bb, j, none⟩) hs).trans e
  have f : ∀ j, w1.frozen? ⟨bb, j, none⟩ = false := fun j => (World.frozen?_of_block (a := ⟨bb, j, none⟩) hs).trans (B.fz j)
  have oth : ∀ (j : Nat) (v : Value), j ≠ 3 → w.cell? ⟨bb, j, none⟩ = some v → (w1.setCell ⟨bb, 3, none⟩ v').cell? ⟨bb, j, none⟩ = some v := fun j v hj e => by
    rw [World.cell?_setCell_other _ _ _ _ (by intro e; injection e with e1 e2; exact hj e2.symm)]; exact c j v e
  have blk : ∀ k, k ≠ bb → (w1.setCell ⟨bb, 3, none⟩ v').heap[k]? = w1.heap[k]? := fun k h => Below.heap_setCell w1 ⟨bb, 3, none⟩ v' k h
  refine ⟨⟨c _ _ B.c3, f 3⟩, ⟨oth 0 _ (by omega) B.c0, oth 1 _ (by omega) B.c1, oth 2 _ (by omega) B.c2, World.cell?_setCell_same _ _ _ (c _ _ B.c3), fun j => by rw [World.frozen?_setCell]; exact f j, ?_, ?_, ?_, B.lb, B.ls, B.lp, B.lw, B.lh, B.ns, B.np, B.nw, B.nh, ?_⟩, ?_, hmw⟩
  · refine owns_blocks B.ro fun k e => (blk k ?_).trans (hk k (B.ro.lt k e).2 ?_)
    · have := (B.ro.lt k e).1; have := B.lb; omega
    · intro e2; exact rows_apart B.rt B.ro (by decide) e2 e
  · rw [List.length_append, ← trC_add]
    refine owns_blocks ho fun k e => blk k ?_
    have := (ho.lt k e).1; have := B.lb; omega
  · refine B.R.blocks fun k e => ?_
    have h1 := B.ns; have h2 := B.np; have h3 := B.nw; have h4 := B.nh; have l1 := B.ls; have l2 := B.lp; have l3 := B.lw; have l4 := B.lh
    exact (blk k (by omega)).trans (hlow k (by omega))
  · have := B.bs; simp; omega
  · refine ⟨hg.os, hg.tape, hg.output, by simp; omega, fun k hkk h0 h1 h2 h3 h4 => (blk k h0).trans (hk k hkk h4)⟩
theorem BusIs.putLamp (B : BusIs w base bb sb bp bw bh N m wt ht out lamp tr vo vt) (x : Int) :
    BusIs (w.setCell ⟨bb, 2, none⟩ (.int .u32 x)) base bb sb bp bw bh N m wt ht out x tr vo vt ∧ BTurned w (w.setCell ⟨bb, 2, none⟩ (.int .u32 x)) bb bp bh vo vt := by
  have oth : ∀ (j : Nat) (v : Value), j ≠ 2 → w.cell? ⟨bb, j, none⟩ = some v → (w.setCell ⟨bb, 2, none⟩ (.int .u32 x)).cell? ⟨bb, j, none⟩ = some v := fun j v hj e => by
    rw [World.cell?_setCell_other _ _ _ _ (by intro e; injection e with e1 e2; exact hj e2.symm)]; exact e
  have blk : ∀ k, k ≠ bb → (w.setCell ⟨bb, 2, none⟩ (.int .u32 x)).heap[k]? = w.heap[k]? := fun k h => Below.heap_setCell w ⟨bb, 2, none⟩ _ k h
  refine ⟨⟨oth 0 _ (by omega) B.c0, oth 1 _ (by omega) B.c1, World.cell?_setCell_same _ _ _ B.c2, oth 3 _ (by omega) B.c3, fun j => by rw [World.frozen?_setCell]; exact B.fz j, ?_, ?_, ?_, B.lb, B.ls, B.lp, B.lw, B.lh, B.ns, B.np, B.nw, B.nh, ?_⟩, ?_⟩
  · exact owns_blocks B.ro fun k e => blk k (by have := (B.ro.lt k e).1; have := B.lb; omega)
  · exact owns_blocks B.rt fun k e => blk k (by have := (B.rt.lt k e).1; have := B.lb; omega)
  · refine B.R.blocks fun k e => ?_
    have h1 := B.ns; have h2 := B.np; have h3 := B.nw; have h4 := B.nh
    exact blk k (by omega)
  · have := B.bs; simp; omega
  · exact ⟨rfl, rfl, rfl, by simp, fun k hkk h0 h1 h2 h3 h4 => blk k h0⟩
end
end Go.Proofs.YtmfhimphlackiaaDoor
