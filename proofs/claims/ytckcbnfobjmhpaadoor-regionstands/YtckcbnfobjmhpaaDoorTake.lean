/-
  An instruction is taken.
-/
import Derived.Test.YtckcbnfobjmhpaaDoorRg0
namespace Go.Proofs.YtckcbnfobjmhpaaDoor
open Go.RowKit Go.Maps
open Num
set_option linter.unusedVariables false
theorem owns_pos {w : World} {base : Nat} {e : TypeId} {size n : Nat} {v : Value} {xs : List Value} (h : w.ownsRow base e size v (n + 1) xs) : ∃ g cap, v = .slice (some ⟨g, 0, none⟩) (n + 1) cap := by
  rcases h.2 with ⟨_, h⟩ | ⟨g, cap, cur, rfl, _⟩
  · omega
  · exact ⟨g, cap, rfl⟩
theorem owns_lt {w : World} {base : Nat} {e : TypeId} {size n : Nat} {v : Value} {xs : List Value} (h : w.ownsRow base e size v n xs) (k : Nat) (hk : v.ownBlock = some k) : base ≤ k ∧ k < w.heap.size := by
  rcases h.2 with ⟨rfl, _⟩ | ⟨g, cap, cur, rfl, hb, hg, _⟩
  · cases hk
  · injection hk with hk; subst hk; exact ⟨hb, (Array.getElem?_eq_some_iff.1 hg).1⟩
theorem oper_append_moved {P : Program} {o : Oper} {a : Act} {w : World} {K : Act → World → Prop} {Q : Exit → Act → World → Prop} (s x : Operand) (t : TypeId)
    (ho : o.op = .call { callee := .builtin .append, args := #[s, x], argTypes := #[t, t] })
    (base : Nat) (e : TypeId) (i : TypeInfo) (z : Value) (size bytes : Nat) (ht : P.underlying t = some (.slice e)) (hi : P.info? e = some i) (hz : i.zero = some z)
    (hsize : i.size = size) (hby : i.bytes = bytes) (hzs : z.cells.size = size) (hsz : 0 < size)
    (v : Value) (n : Nat) (xs : List Value) (hs : a.eval s = v) (hown : w.ownsRow base e size v n xs)
    (ad : Addr) (m c : Nat) (news : List Value) (hx : a.eval x = .slice (some ad) m c) (hl : news.length = m * size) (hnews : ∀ j u, news[j]? = some u → w.cell? (ad.add j) = some u) (h1 : ∀ u ∈ news, u.oneCell' = true)
    (h63 : n + m ≤ maxLen) (hbytes : (n + m) * bytes ≤ 140737488355328) (hbase : base ≤ w.heap.size)
    (h : ∀ v' w', w'.ownsRow base e size v' (n + m) (xs ++ news) → w.grownBy w' v.ownBlock → Moved w v v' → K (a.put o.dst v') w') : Oper.wp P o a w K Q := by
  obtain ⟨v', w', hr, h2, h3, h4⟩ := run_append_moved (P := P) w base t o.type e i z size bytes ht hi hz hsize hby hzs hsz v n xs hown ad m c news hl hnews h1 h63 hbytes hbase
  unfold Oper.wp execOp
  simp only [ho, resolve, invoke, builtin, Sem.run_bind, Sem.run_pure, Result.andThen_ok, List.map_toArray, List.map_cons, List.map_nil, hs, hx, hr]
  exact h v' w' h2 h3 h4
section
variable {w0 w : World} {fb : Nat} {pc : Int} {sb most n st : Nat} {m : Nat → Int} {vi : Value}
theorem FAt.put (F : FAt w0 w fb pc sb most n st m vi) {w1 : World} {v' : Value} (ho : w1.ownsRow w0.heap.size 65 5 v' (n + 1) (insL m pc n ++ insC (wAt m pc n))) (hg : w.grownBy w1 vi.ownBlock) (hm : Moved w vi v') :
    (w1.cell? ⟨fb, 1, none⟩ = some vi ∧ w1.frozen? ⟨fb, 1, none⟩ = false) ∧ FAt w0 (w1.setCell ⟨fb, 1, none⟩ v') fb pc sb most (n + 1) st m v' := by
  have hk : ∀ k, k < w.heap.size → vi.ownBlock ≠ some k → w1.heap[k]? = w.heap[k]? := fun k hk h => hg.block k hk (fun e => h e.symm)
  have hs : w1.heap[fb]? = w.heap[fb]? := hk fb F.lt (fun e => F.vb fb e rfl)
  have c : ∀ (j : Nat) (v : Value), w.cell? ⟨fb, j, none⟩ = some v → w1.cell? ⟨fb, j, none⟩ = some v := fun j v e => (World.cell?_of_block (a := ⟨fb, j, none⟩) hs).trans e
  have f : ∀ j, w1.frozen? ⟨fb, j, none⟩ = false := fun j => (World.frozen?_of_block (a := ⟨fb, j, none⟩) hs).trans (F.fz j)
  have oth : ∀ (j : Nat) (v : Value), j ≠ 1 → w.cell? ⟨fb, j, none⟩ = some v → (w1.setCell ⟨fb, 1, none⟩ v').cell? ⟨fb, j, none⟩ = some v := fun j v hj e => by
    rw [World.cell?_setCell_other _ _ _ _ (by intro e; injection e with e1 e2; exact hj e2.symm)]; exact c j v e
  have blk : ∀ k, k ≠ fb → (w1.setCell ⟨fb, 1, none⟩ v').heap[k]? = w1.heap[k]? := fun k h => Below.heap_setCell w1 ⟨fb, 1, none⟩ v' k h
  have hv' : ∀ k, v'.ownBlock = some k → k ≠ fb := fun k e => by
    rcases hm k e with h | h
    · exact F.vb k h
    · have := F.lt; omega
  refine ⟨⟨c _ _ F.c1, f 1⟩, ⟨oth 0 _ (by omega) F.c0, World.cell?_setCell_same _ _ _ (c _ _ F.c1), oth 2 _ (by omega) F.c2, oth 3 _ (by omega) F.c3, oth 4 _ (by omega) F.c4, oth 5 _ (by omega) F.c5, fun j => by rw [World.frozen?_setCell]; exact f j, ?_, ?_, F.lf, hv'⟩⟩
  · rw [insL_succ]
    exact owns_blocks ho fun k e => blk k (hv' k e)
  · have hb : Below w0.heap.size w0 w1 := ⟨hg.os.trans F.be.os, hg.tape.trans F.be.tape, hg.output.trans F.be.output, Nat.le_trans F.be.size hg.size, fun k hk' => (hk k (Nat.lt_of_lt_of_le hk' F.be.size) (fun e => by have := (owns_lt F.row k e).1; omega)).trans (F.be.block k hk')⟩
    exact hb.setCell F.lf _
theorem FAt.count (F : FAt w0 w fb pc sb most n st m vi) (x : Nat) : FAt w0 (w.setCell ⟨fb, 5, none⟩ (.int .i64 x)) fb pc sb most n x m vi := by
  have oth : ∀ (j : Nat) (v : Value), j ≠ 5 → w.cell? ⟨fb, j, none⟩ = some v → (w.setCell ⟨fb, 5, none⟩ (.int .i64 x)).cell? ⟨fb, j, none⟩ = some v := fun j v hj e => by
    rw [World.cell?_setCell_other _ _ _ _ (by intro e; injection e with e1 e2; exact hj e2.symm)]; exact e
  exact ⟨oth 0 _ (by omega) F.c0, oth 1 _ (by omega) F.c1, oth 2 _ (by omega) F.c2, oth 3 _ (by omega) F.c3, oth 4 _ (by omega) F.c4, World.cell?_setCell_same _ _ _ F.c5, fun j => by rw [World.frozen?_setCell]; exact F.fz j,
    owns_blocks F.row fun k e => Below.heap_setCell w ⟨fb, 5, none⟩ _ k (F.vb k e), F.be.setCell F.lf _, F.lf, F.vb⟩
theorem info45 : (Tryd.prog.info? 65).map (fun i => (i.zero, i.size, i.bytes)) = some (some (.agg #[.int .i64 0, .int .i64 0, .int .i64 0, .int .i64 0, .int .u32 0]), 5, 40) := by kernel_rfl
theorem insC_cells (w : World) (v : Int) (t : TypeId) : ∀ j u, (insC v)[j]? = some u → (w.alloc (.cells (insC v).toArray t)).cell? ((⟨w.heap.size, 0, none⟩ : Addr).add j) = some u := by
  intro j u h
  have hj : j < 5 := by
    have := (List.getElem?_eq_some_iff.1 h).1
    simpa [insC] using this
  rw [add_lit]
  have : j = 0 ∨ j = 1 ∨ j = 2 ∨ j = 3 ∨ j = 4 := by omega
  rcases this with rfl | rfl | rfl | rfl | rfl <;> (simp [insC] at h ⊢; exact h)
theorem insC_one (v : Int) : ∀ u ∈ insC v, u.oneCell' = true := by
  intro u h; simp [insC] at h; rcases h with rfl | rfl | rfl | rfl | rfl <;> rfl
/-- what else stays while an instruction is taken -/
def TKept (w w' : World) (fb : Nat) (vi : Value) : Prop := ∀ k, k < w.heap.size → k ≠ fb → vi.ownBlock ≠ some k → w'.heap[k]? = w.heap[k]?
theorem TKept.set {w w' : World} {fb : Nat} {vi : Value} (h : TKept w w' fb vi) (j : Nat) (v : Value) : TKept w (w'.setCell ⟨fb, j, none⟩ v) fb vi :=
  fun k h1 h2 h3 => (Below.heap_setCell w' ⟨fb, j, none⟩ v k h2).trans (h k h1 h2 h3)
set_option maxRecDepth 100000 in
set_option maxHeartbeats 8000000 in
theorem take_any (F : FAt w0 w fb pc sb most n st m vi) (hn : n ≤ 24) (hst : st ≤ 8) (kd : Nat) (hk : kd = 1 ∨ kd = 2 ∨ kd = 4 ∨ kd = 5) :
    Calls Tryd.prog 68 #[.pointer (some ⟨fb, 0, none⟩), insV (wAt m pc n), kwV kd] w fun e w' => e = .returned (.tuple #[]) ∧ TKept w w' fb vi ∧ ∃ vi', FAt w0 w' fb pc sb most (n + 1) (if kd = 5 then st + 1 else st) m vi' := by
  obtain ⟨i0, hi, hz0, hz1, hz2⟩ := info_parts info45
  have hA : Below w.heap.size w (w.alloc (.cells (insC (wAt m pc n)).toArray 65)) := (Below.refl _ _).alloc (Nat.le_refl _) _
  have FA : Hid (FAt w0 (w.alloc (.cells (insC (wAt m pc n)).toArray 65)) fb pc sb most n st m vi) := F.stays hA
  have hne : fb ≠ w.heap.size := by have := F.lt; omega
  have hlt := F.lt
  have hvl : ∀ k, vi.ownBlock = some k → k < w.heap.size := fun k e => (owns_lt F.row k e).2
  have hcl : ∀ j u, (insC (wAt m pc n))[j]? = some u → (w.alloc (.cells (insC (wAt m pc n)).toArray 65)).cell? ((⟨w.heap.size, 0, none⟩ : Addr).add j) = some u := insC_cells w _ 65
  have hAH : Hid (Below w.heap.size w (w.alloc (.cells (insC (wAt m pc n)).toArray 65))) := hA
  clear F hA
  unfold insC at hcl FA hAH
  unfold insV
  have hX : Hid (insC (wAt m pc n) = [.int .i64 (decK (wAt m pc n)), .int .i64 (Tab.xs (Tab.sh (decK (wAt m pc n))) (wAt m pc n)), .int .i64 (Tab.xt (Tab.sh (decK (wAt m pc n))) (wAt m pc n)), .int .i64 (Tab.xd (Tab.sh (decK (wAt m pc n))) (wAt m pc n)), .int .u32 (Tab.xm (Tab.sh (decK (wAt m pc n))) (wAt m pc n))]) := rfl
  generalize Tab.xs (Tab.sh (decK (wAt m pc n))) (wAt m pc n) = i1 at *
  generalize Tab.xt (Tab.sh (decK (wAt m pc n))) (wAt m pc n) = i2 at *
  generalize Tab.xd (Tab.sh (decK (wAt m pc n))) (wAt m pc n) = i3 at *
  generalize Tab.xm (Tab.sh (decK (wAt m pc n))) (wAt m pc n) = i4 at *
  generalize decK (wAt m pc n) = i0' at *
  go_enter Tryd.func68, Tryd.ntmps68
  go_upto_region 1 with fail
  have hgb : w.heap.size < (w.alloc (.cells #[.int .i64 i0', .int .i64 i1, .int .i64 i2, .int .i64 i3, .int .u32 i4] 65)).heap.size := by simp
  have hvg : ∀ k, vi.ownBlock = some k → k ≠ w.heap.size := fun k e => by have := hvl k e; omega
  have g0 : (w.alloc (.cells #[.int .i64 i0', .int .i64 i1, .int .i64 i2, .int .i64 i3, .int .u32 i4] 65)).cell? ⟨w.heap.size, 0, none⟩ = some (.int .i64 i0') := by simp
  have g1 : (w.alloc (.cells #[.int .i64 i0', .int .i64 i1, .int .i64 i2, .int .i64 i3, .int .u32 i4] 65)).cell? ⟨w.heap.size, 1, none⟩ = some (.int .i64 i1) := by simp
  have g2 : (w.alloc (.cells #[.int .i64 i0', .int .i64 i1, .int .i64 i2, .int .i64 i3, .int .u32 i4] 65)).cell? ⟨w.heap.size, 2, none⟩ = some (.int .i64 i2) := by simp
  have g3 : (w.alloc (.cells #[.int .i64 i0', .int .i64 i1, .int .i64 i2, .int .i64 i3, .int .u32 i4] 65)).cell? ⟨w.heap.size, 3, none⟩ = some (.int .i64 i3) := by simp
  have g4 : (w.alloc (.cells #[.int .i64 i0', .int .i64 i1, .int .i64 i2, .int .i64 i3, .int .u32 i4] 65)).cell? ⟨w.heap.size, 4, none⟩ = some (.int .u32 i4) := by simp
  change Hid (FAt w0 (w.alloc (.cells #[.int .i64 i0', .int .i64 i1, .int .i64 i2, .int .i64 i3, .int .u32 i4] 65)) fb pc sb most n st m vi) at FA
  change Hid (Below w.heap.size w (w.alloc (.cells #[.int .i64 i0', .int .i64 i1, .int .i64 i2, .int .i64 i3, .int .u32 i4] 65))) at hAH
  clear hcl
  generalize w.alloc (.cells #[.int .i64 i0', .int .i64 i1, .int .i64 i2, .int .i64 i3, .int .u32 i4] 65) = w1 at *
  have hkw : Hid (∀ k, k < w.heap.size → w1.heap[k]? = w.heap[k]?) := fun k hk => hAH.out.block k hk
  have hws : w.heap.size ≤ w1.heap.size := hAH.out.size
  clear hAH
  have hgw : Hid (w.heap.size = w.heap.size) := rfl
  generalize hgbe : w.heap.size = gb at hgb hvg hne hlt hvl g0 g1 g2 g3 g4 ⊢
  have hbD : Below w1.heap.size w1 w1.drew := (Below.refl _ _).drew
  have hnews : ∀ j u, (insC (wAt m pc n))[j]? = some u → (w1.alloc (.cells (insC (wAt m pc n)).toArray 65)).drew.cell? ((⟨w1.heap.size, 0, none⟩ : Addr).add j) = some u := fun j u h => by
    have := insC_cells w1 _ 65 j u h
    simpa using this
  have hone := insC_one (wAt m pc n)
  have hlen : (insC (wAt m pc n)).length = 1 * 5 := rfl
  have hXX := hX.out
  have hbA : ∀ o, Below w1.heap.size w1 (w1.alloc o).drew := fun o => ((Below.refl _ _).alloc (Nat.le_refl _) _).drew
  have hcC : ∀ W, Below w1.heap.size w1 W → W.cell? ⟨fb, 1, none⟩ = some vi ∧ W.cell? ⟨gb, 0, none⟩ = some (.int .i64 i0') ∧ W.cell? ⟨gb, 1, none⟩ = some (.int .i64 i1) ∧ W.cell? ⟨gb, 2, none⟩ = some (.int .i64 i2) ∧ W.cell? ⟨gb, 3, none⟩ = some (.int .i64 i3) ∧ W.cell? ⟨gb, 4, none⟩ = some (.int .u32 i4) := fun W h =>
    ⟨K.cell_stays h (Nat.le_refl _) FA.out.c1, K.cell_stays h (Nat.le_refl _) g0, K.cell_stays h (Nat.le_refl _) g1, K.cell_stays h (Nat.le_refl _) g2, K.cell_stays h (Nat.le_refl _) g3, K.cell_stays h (Nat.le_refl _) g4⟩
  have hC1 : Hid _ := hcC _ hbD
  have hC2 : Hid _ := fun o => hcC _ (hbA o)
  have F2 : Hid (∀ o, FAt w0 (w1.alloc o).drew fb pc sb most n st m vi) := fun o => FA.out.stays (hbA o)
  have hsz1 : ∀ o, w1.heap.size < (w1.alloc o).drew.heap.size := fun o => by simp
  clear g0 g1 g2 g3 g4 hcC hbD
  refine wp_region_phase 12 [(0, 0), (1, 0), (2, 0), (3, 0), (4, 0), (5, 1), (6, 1), (7, 2), (8, 2), (9, 0), (10, 0), (11, 0), (12, 2)] (fun W => W.cell? ⟨fb, 1, none⟩ = some vi ∧ W.cell? ⟨gb, 0, none⟩ = some (.int .i64 i0') ∧ W.cell? ⟨gb, 1, none⟩ = some (.int .i64 i1) ∧ W.cell? ⟨gb, 2, none⟩ = some (.int .i64 i2) ∧ W.cell? ⟨gb, 3, none⟩ = some (.int .i64 i3) ∧ W.cell? ⟨gb, 4, none⟩ = some (.int .u32 i4)) (by kernel_rfl) (by kernel_rfl) (fun _ _ _ d _ h => by cases d <;> exact h) hC1.out ?_
  repeat (first | (refine wpPlanZ_free (by rfl) (by rfl) (fun W => by (go_simp; try with_reducible rfl)) (fun K hK => ?_); go_simp; refine hK _ ?_; clear hK K) | (refine wpPlanZ_quiet (by rfl) (by rfl) (fun W hW => by (obtain ⟨c1, g0, g1, g2, g3, g4⟩ := hW; go_simp; try with_reducible rfl)) (fun K hK => ?_); go_simp; refine hK _ ?_; clear hK K))
  refine wpPlanZ_serial (by rfl) (by rfl) (fun K hK => ?_)
  go_simp
  refine hK _ _ (fun _ => hC2.out _) ?_
  clear hK K
  rw [hXX] at hnews hone hlen
  have F3 : Hid _ := F2.out (.cells #[.int .i64 i0', .int .i64 i1, .int .i64 i2, .int .i64 i3, .int .u32 i4] 65)
  have hC3 : Hid _ := hC2.out (.cells #[.int .i64 i0', .int .i64 i1, .int .i64 i2, .int .i64 i3, .int .u32 i4] 65)
  have hsz2 := hsz1 (.cells #[.int .i64 i0', .int .i64 i1, .int .i64 i2, .int .i64 i3, .int .u32 i4] 65)
  change ∀ j u, ([.int .i64 i0', .int .i64 i1, .int .i64 i2, .int .i64 i3, .int .u32 i4] : List Value)[j]? = some u → (w1.alloc (.cells #[.int .i64 i0', .int .i64 i1, .int .i64 i2, .int .i64 i3, .int .u32 i4] 65)).drew.cell? ((⟨w1.heap.size, 0, none⟩ : Addr).add j) = some u at hnews
  have hk2 : Hid (∀ k, k < w.heap.size → (w1.alloc (.cells #[.int .i64 i0', .int .i64 i1, .int .i64 i2, .int .i64 i3, .int .u32 i4] 65)).drew.heap[k]? = w.heap[k]?) := fun k hk => ((hbA _).block k (by omega)).trans (hkw.out k hk)
  clear F2 hC2 hC1 hsz1 FA hbA
  generalize (w1.alloc (.cells #[.int .i64 i0', .int .i64 i1, .int .i64 i2, .int .i64 i3, .int .u32 i4] 65)).drew = w2 at *
  have hbase : w0.heap.size ≤ w2.heap.size := F3.out.be.size
  have hgb2 : gb < w2.heap.size := World.block_lt_of_cell? _ _ hC3.out.2.1
  refine wpPlanZ_serial (by rfl) (by rfl) (fun K hK => ?_)
  refine oper_append_moved _ _ 48 rfl w0.heap.size 65 i0 _ 5 40 Tryd.underlying48 hi hz0 hz1 hz2 rfl (by decide) vi n (insL m pc n) rfl F3.out.row ⟨w1.heap.size, 0, none⟩ 1 1 [.int .i64 i0', .int .i64 i1, .int .i64 i2, .int .i64 i3, .int .u32 i4] rfl hlen hnews hone (by unfold maxLen; omega) (by omega) hbase ?_
  intro v' w4 ho hg hm
  rw [← hXX] at ho
  obtain ⟨g', cap', rfl⟩ := owns_pos ho
  have hp := F3.out.put ho hg hm
  obtain ⟨⟨hc1, hf1⟩, F4⟩ := hp
  have hgk : w4.heap[gb]? = w2.heap[gb]? := hg.block gb hgb2 (fun e => hvg gb e.symm rfl)
  have gc : ∀ (j : Nat) (v : Value), w2.cell? ⟨gb, j, none⟩ = some v → w4.cell? ⟨gb, j, none⟩ = some v := fun j v e => (World.cell?_of_block (a := ⟨gb, j, none⟩) hgk).trans e
  have hq := hC3.out
  refine hK _ _ (fun _ => ⟨hc1, gc _ _ hq.2.1, gc _ _ hq.2.2.1, gc _ _ hq.2.2.2.1, gc _ _ hq.2.2.2.2.1, gc _ _ hq.2.2.2.2.2⟩) ?_
  have hC4 : Hid (w4.cell? ⟨gb, 0, none⟩ = some (.int .i64 i0') ∧ w4.cell? ⟨gb, 1, none⟩ = some (.int .i64 i1) ∧ w4.cell? ⟨gb, 2, none⟩ = some (.int .i64 i2) ∧ w4.cell? ⟨gb, 3, none⟩ = some (.int .i64 i3) ∧ w4.cell? ⟨gb, 4, none⟩ = some (.int .u32 i4)) := ⟨gc _ _ hq.2.1, gc _ _ hq.2.2.1, gc _ _ hq.2.2.2.1, gc _ _ hq.2.2.2.2.1, gc _ _ hq.2.2.2.2.2⟩
  clear hK K gc hgk hq hC3
  repeat (first | (refine wpPlanZ_free (by rfl) (by rfl) (fun W => by (go_simp; try with_reducible rfl)) (fun K hK => ?_); go_simp; refine hK _ ?_; clear hK K))
  refine wpPlanZ_serial (by rfl) (by rfl) (fun K hK => ?_)
  go_simp
  refine hK _ _ (fun h => absurd h (by decide)) ?_
  clear hK K
  refine wpPlanZ_nil ?_
  have hT : Hid (TKept w (w4.setCell ⟨fb, 1, none⟩ (.slice (some ⟨g', 0, none⟩) (n + 1) cap')) fb vi) := TKept.set (fun k h1 h2 h3 => (hg.block k (by omega) (fun e => h3 e.symm)).trans (hk2.out k h1)) 1 _
  clear hC4 hg hm ho hc1 hf1
  have F5 : Hid _ := F4
  generalize w4.setCell ⟨fb, 1, none⟩ (.slice (some ⟨g', 0, none⟩) (n + 1) cap') = w5 at *
  clear F4 F3
  have c5 := F5.out.c5
  have f5 := F5.out.fz 5
  have hst' : (st : Int) ≤ 8 := by omega
  have F6 : Hid _ := F5.out.count (st + 1)
  have hT6 : Hid _ := hT.out.set 5 (.int .i64 ((st + 1 : Nat) : Int))
  rcases hk with rfl | rfl | rfl | rfl
  · rw [show kwV 1 = .string ⟨#[115, 117, 109]⟩ from rfl]
    go_wp2
    go_end0
    exact ⟨rfl, hT.out, _, F5.out⟩
  · rw [show kwV 2 = .string ⟨#[98, 114, 97, 110, 99, 104]⟩ from rfl]
    go_wp2
    go_end0
    exact ⟨rfl, hT.out, _, F5.out⟩
  · rw [show kwV 4 = .string ⟨#[108, 111, 97, 100]⟩ from rfl]
    go_wp2
    go_end0
    exact ⟨rfl, hT.out, _, F5.out⟩
  · rw [show kwV 5 = .string ⟨#[115, 116, 111, 114, 101]⟩ from rfl]
    go_wp2
    go_end0
    exact ⟨rfl, hT6.out, _, F6.out⟩
end
end Go.Proofs.YtckcbnfobjmhpaaDoor
