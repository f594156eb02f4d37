/-
  An instruction is taken.
-/
import Derived.Great.Walk
import Derived.Test.YtckcbnfobjmhpaaDoorRgA
namespace Go.Proofs.YtckcbnfobjmhpaaDoor
open Go.RowKit Go.Maps
open Num
set_option linter.unusedVariables false
theorem owns_pos {w : World} {base : Nat} {e : TypeId} {size n : Nat} {v : Value} {xs : List Value} (h : w.ownsRow base e size v (n + 1) xs) : ∃ g cap, v = .slice (some ⟨g, 0, none⟩) (n + 1) cap := by
  rcases h.2 with ⟨_, h⟩ | ⟨g, cap, cur, rfl, _⟩
  · omega
  · exact ⟨g, cap, rfl⟩
theorem owns_lt {w : World} {base : Nat} {e : TypeId} {size n : Nat} {v : Value} {xs : List Value} (h : w.ownsRow base e size v n xs) (k : Nat) (hk : v.ownBlock = some k) : base ≤ k ∧ k < w.heap.size := by
  rcases h.2 with ⟨rfl, _⟩ | ⟨g, cap, cur, rfl, hb, hg, _⟩
  · cases hk
  · injection hk with hk; subst hk; exact ⟨hb, (Array.getElem?_eq_some_iff.1 hg).1⟩
theorem oper_append_moved {P : Program} {o : Oper} {a : Act} {w : World} {K : Act → World → Prop} {Q : Exit → Act → World → Prop} (s x : Operand) (t : TypeId)
    (ho : o.op = .call { callee := .builtin .append, args := #[s, x], argTypes := #[t, t] })
    (base : Nat) (e : TypeId) (i : TypeInfo) (z : Value) (size bytes : Nat) (ht : P.underlying t = some (.slice e)) (hi : P.info? e = some i) (hz : i.zero = some z)
    (hsize : i.size = size) (hby : i.bytes = bytes) (hzs : z.cells.size = size) (hsz : 0 < size)
    (v : Value) (n : Nat) (xs : List Value) (hs : a.eval s = v) (hown : w.ownsRow base e size v n xs)
    (ad : Addr) (m c : Nat) (news : List Value) (hx : a.eval x = .slice (some ad) m c) (hl : news.length = m * size) (hnews : ∀ j u, news[j]? = some u → w.cell? (ad.add j) = some u) (h1 : ∀ u ∈ news, u.oneCell' = true)
    (h63 : n + m ≤ maxLen) (hbytes : (n + m) * bytes ≤ 140737488355328) (hbase : base ≤ w.heap.size)
    (h : ∀ v' w', w'.ownsRow base e size v' (n + m) (xs ++ news) → w.grownBy w' v.ownBlock → Moved w v v' → K (a.put o.dst v') w') : Oper.wp P o a w K Q := by
  obtain ⟨v', w', hr, h2, h3, h4⟩ := run_append_moved (P := P) w base t o.type e i z size bytes ht hi hz hsize hby hzs hsz v n xs hown ad m c news hl hnews h1 h63 hbytes hbase
  unfold Oper.wp execOp
  simp only [ho, resolve, invoke, builtin, Sem.run_bind, Sem.run_pure, Result.andThen_ok, List.map_toArray, List.map_cons, List.map_nil, hs, hx, hr]
  exact h v' w' h2 h3 h4
section
variable {w0 w : World} {fb : Nat} {pc : Int} {sb most n st : Nat} {m : Nat → Int} {vi : Value}
theorem FAt.put (F : FAt w0 w fb pc sb most n st m vi) {w1 : World} {v' : Value} (ho : w1.ownsRow w0.heap.size 65 5 v' (n + 1) (insL m pc n ++ insC (wAt m pc n))) (hg : w.grownBy w1 vi.ownBlock) (hm : Moved w vi v') :
    (w1.cell? ⟨fb, 1, none⟩ = some vi ∧ w1.frozen? ⟨fb, 1, none⟩ = false) ∧ FAt w0 (w1.setCell ⟨fb, 1, none⟩ v') fb pc sb most (n + 1) st m v' := by
  have hk : ∀ k, k < w.heap.size → vi.ownBlock ≠ some k → w1.heap[k]? = w.heap[k]? := fun k hk h => hg.block k hk (fun e => h e.symm)
  have hs : w1.heap[fb]? = w.heap[fb]? := hk fb F.lt (fun e => F.vb fb e rfl)
  have c : ∀ (j : Nat) (v : Value), w.cell? ⟨fb, j, none⟩ = some v → w1.cell? ⟨fb, j, none⟩ = some v := fun j v e => (World.cell?_of_block (a := ⟨fb, j, none⟩) hs).trans e
  have f : ∀ j, w1.frozen? ⟨fb, j, none⟩ = false := fun j => (World.frozen?_of_block (a := ⟨fb, j, none⟩) hs).trans (F.fz j)
  have oth : ∀ (j : Nat) (v : Value), j ≠ 1 → w.cell? ⟨fb, j, none⟩ = some v → (w1.setCell ⟨fb, 1, none⟩ v').cell? ⟨fb, j, none⟩ = some v := fun j v hj e => by
    rw [World.cell?_setCell_other _ _ _ _ (by intro e; injection e with e1 e2; exact hj e2.symm)]; exact c j v e
  have blk : ∀ k, k ≠ fb → (w1.setCell ⟨fb, 1, none⟩ v').heap[k]? = w1.heap[k]? := fun k h => Below.heap_setCell w1 ⟨fb, 1, none⟩ v' k h
  have hv' : ∀ k, v'.ownBlock = some k → k ≠ fb := fun k e => by
    rcases hm k e with h | h
    · exact F.vb k h
    · have := F.lt; omega
  refine ⟨⟨c _ _ F.c1, f 1⟩, ⟨oth 0 _ (by omega) F.c0, World.cell?_setCell_same _ _ _ (c _ _ F.c1), oth 2 _ (by omega) F.c2, oth 3 _ (by omega) F.c3, oth 4 _ (by omega) F.c4, oth 5 _ (by omega) F.c5, fun j => by rw [World.frozen?_setCell]; exact f j, ?_, ?_, F.lf, hv'⟩⟩
  · rw [insL_succ]
    exact owns_blocks ho fun k e => blk k (hv' k e)
  · have hb : Below w0.heap.size w0 w1 := ⟨hg.os.trans F.be.os, hg.tape.trans F.be.tape, hg.output.trans F.be.output, Nat.le_trans F.be.size hg.size, fun k hk' => (hk k (Nat.lt_of_lt_of_le hk' F.be.size) (fun e => by have := (owns_lt F.row k e).1; omega)).trans (F.be.block k hk')⟩
    exact hb.setCell F.lf _
theorem FAt.count (F : FAt w0 w fb pc sb most n st m vi) (x : Nat) : FAt w0 (w.setCell ⟨fb, 5, none⟩ (.int .i64 x)) fb pc sb most n x m vi := by
  have oth : ∀ (j : Nat) (v : Value), j ≠ 5 → w.cell? ⟨fb, j, none⟩ = some v → (w.setCell ⟨fb, 5, none⟩ (.int .i64 x)).cell? ⟨fb, j, none⟩ = some v := fun j v hj e => by
    rw [World.cell?_setCell_other _ _ _ _ (by intro e; injection e with e1 e2; exact hj e2.symm)]; exact e
  exact ⟨oth 0 _ (by omega) F.c0, oth 1 _ (by omega) F.c1, oth 2 _ (by omega) F.c2, oth 3 _ (by omega) F.c3, oth 4 _ (by omega) F.c4, World.cell?_setCell_same _ _ _ F.c5, fun j => by rw [World.frozen?_setCell]; exact F.fz j,
    owns_blocks F.row fun k e => Below.heap_setCell w ⟨fb, 5, none⟩ _ k (F.vb k e), F.be.setCell F.lf _, F.lf, F.vb⟩
theorem info45 : (Tryd.prog.info? 65).map (fun i => (i.zero, i.size, i.bytes)) = some (some (.agg #[.int .i64 0, .int .i64 0, .int .i64 0, .int .i64 0, .int .u32 0]), 5, 40) := by kernel_rfl
theorem insC_cells (w : World) (v : Int) (t : TypeId) : ∀ j u, (insC v)[j]? = some u → (w.alloc (.cells (insC v).toArray t)).cell? ((⟨w.heap.size, 0, none⟩ : Addr).add j) = some u := by
  intro j u h
  have hj : j < 5 := by
    have := (List.getElem?_eq_some_iff.1 h).1
    simpa [insC] using this
  rw [add_lit]
  have : j = 0 ∨ j = 1 ∨ j = 2 ∨ j = 3 ∨ j = 4 := by omega
  rcases this with rfl | rfl | rfl | rfl | rfl <;> (simp [insC] at h ⊢; exact h)
theorem insC_one (v : Int) : ∀ u ∈ insC v, u.oneCell' = true := by
  intro u h; simp [insC] at h; rcases h with rfl | rfl | rfl | rfl | rfl <;> rfl
/-- what else stays while an instruction is taken -/
def TKept (w w' : World) (fb : Nat) (vi : Value) : Prop := ∀ k, k < w.heap.size → k ≠ fb → vi.ownBlock ≠ some k → w'.heap[k]? = w.heap[k]?
theorem TKept.set {w w' : World} {fb : Nat} {vi : Value} (h : TKept w w' fb vi) (j : Nat) (v : Value) : TKept w (w'.setCell ⟨fb, j, none⟩ v) fb vi :=
  fun k h1 h2 h3 => (Below.heap_setCell w' ⟨fb, j, none⟩ v k h2).trans (h k h1 h2 h3)
set_option maxRecDepth 100000 in
set_option maxHeartbeats 8000000 in
theorem take_any (F : FAt w0 w fb pc sb most n st m vi) (hn : n ≤ 24) (hst : st ≤ 8) (kd : Nat) (hk : kd = 1 ∨ kd = 2 ∨ kd = 4 ∨ kd = 5) :
    Calls Tryd.prog 68 #[.pointer (some ⟨fb, 0, none⟩), insV (wAt m pc n), kwV kd] w fun e w' => e = .returned (.tuple #[]) ∧ TKept w w' fb vi ∧ ∃ vi', FAt w0 w' fb pc sb most (n + 1) (if kd = 5 then st + 1 else st) m vi' := by
  obtain ⟨i0, hi, hz0, hz1, hz2⟩ := info_parts info45
  have hA : Below w.heap.size w (w.alloc (.cells (insC (wAt m pc n)).toArray 65)) := (Below.refl _ _).alloc (Nat.le_refl _) _
  have FA : Hid (FAt w0 (w.alloc (.cells (insC (wAt m pc n)).toArray 65)) fb pc sb most n st m vi) := F.stays hA
  have hne : fb ≠ w.heap.size := by have := F.lt; omega
  have hlt := F.lt
  have hvl : ∀ k, vi.ownBlock = some k → k < w.heap.size := fun k e => (owns_lt F.row k e).2
  have hcl : ∀ j u, (insC (wAt m pc n))[j]? = some u → (w.alloc (.cells (insC (wAt m pc n)).toArray 65)).cell? ((⟨w.heap.size, 0, none⟩ : Addr).add j) = some u := insC_cells w _ 65
  have hAH : Hid (Below w.heap.size w (w.alloc (.cells (insC (wAt m pc n)).toArray 65))) := hA
  clear F hA
  unfold insC at hcl FA hAH
  unfold insV
  have hX : Hid (insC (wAt m pc n) = [.int .i64 (decK (wAt m pc n)), .int .i64 (Tab.xs (Tab.sh (decK (wAt m pc n))) (wAt m pc n)), .int .i64 (Tab.xt (Tab.sh (decK (wAt m pc n))) (wAt m pc n)), .int .i64 (Tab.xd (Tab.sh (decK (wAt m pc n))) (wAt m pc n)), .int .u32 (Tab.xm (Tab.sh (decK (wAt m pc n))) (wAt m pc n))]) := rfl
  generalize Tab.xs (Tab.sh (decK (wAt m pc n))) (wAt m pc n) = i1 at *
  generalize Tab.xt (Tab.sh (decK (wAt m pc n))) (wAt m pc n) = i2 at *
  generalize Tab.xd (Tab.sh (decK (wAt m pc n))) (wAt m pc n) = i3 at *
  generalize Tab.xm (Tab.sh (decK (wAt m pc n))) (wAt m pc n) = i4 at *
  generalize decK (wAt m pc n) = i0' at *
  go_enter Tryd.func68, Tryd.ntmps68
  go_upto_region 1 with fail
  have hgb : w.heap.size < (w.alloc (.cells #[.int .i64 i0', .int .i64 i1, .int .i64 i2, .int .i64 i3, .int .u32 i4] 65)).heap.size := by simp
  have hvg : ∀ k, vi.ownBlock = some k → k ≠ w.heap.size := fun k e => by have := hvl k e; omega
  have g0 : (w.alloc (.cells #[.int .i64 i0', .int .i64 i1, .int .i64 i2, .int .i64 i3, .int .u32 i4] 65)).cell? ⟨w.heap.size, 0, none⟩ = some (.int .i64 i0') := by simp
  have g1 : (w.alloc (.cells #[.int .i64 i0', .int .i64 i1, .int .i64 i2, .int .i64 i3, .int .u32 i4] 65)).cell? ⟨w.heap.size, 1, none⟩ = some (.int .i64 i1) := by simp
  have g2 : (w.alloc (.cells #[.int .i64 i0', .int .i64 i1, .int .i64 i2, .int .i64 i3, .int .u32 i4] 65)).cell? ⟨w.heap.size, 2, none⟩ = some (.int .i64 i2) := by simp
  have g3 : (w.alloc (.cells #[.int .i64 i0', .int .i64 i1, .int .i64 i2, .int .i64 i3, .int .u32 i4] 65)).cell? ⟨w.heap.size, 3, none⟩ = some (.int .i64 i3) := by simp
  have g4 : (w.alloc (.cells #[.int .i64 i0', .int .i64 i1, .int .i64 i2, .int .i64 i3, .int .u32 i4] 65)).cell? ⟨w.heap.size, 4, none⟩ = some (.int .u32 i4) := by simp
  change Hid (FAt w0 (w.alloc (.cells #[.int .i64 i0', .int .i64 i1, .int .i64 i2, .int .i64 i3, .int .u32 i4] 65)) fb pc sb most n st m vi) at FA
  change Hid (Below w.heap.size w (w.alloc (.cells #[.int .i64 i0', .int .i64 i1, .int .i64 i2, .int .i64 i3, .int .u32 i4] 65))) at hAH
  clear hcl
  generalize w.alloc (.cells #[.int .i64 i0', .int .i64 i1, .int .i64 i2, .int .i64 i3, .int .u32 i4] 65) = w1 at *
  have hkw : Hid (∀ k, k < w.heap.size → w1.heap[k]? = w.heap[k]?) := fun k hk => hAH.out.block k hk
  have hws : w.heap.size ≤ w1.heap.size := hAH.out.size
  clear hAH
  have hgw : Hid (w.heap.size = w.heap.size) := rfl
  generalize hgbe : w.heap.size = gb at hgb hvg hne hlt hvl g0 g1 g2 g3 g4 ⊢
  have hbD : Below w1.heap.size w1 w1.drew := (Below.refl _ _).drew
  have hnews : ∀ j u, (insC (wAt m pc n))[j]? = some u → (w1.alloc (.cells (insC (wAt m pc n)).toArray 65)).drew.cell? ((⟨w1.heap.size, 0, none⟩ : Addr).add j) = some u := fun j u h => by
    have := insC_cells w1 _ 65 j u h
    simpa using this
  have hone := insC_one (wAt m pc n)
  have hlen : (insC (wAt m pc n)).length = 1 * 5 := rfl
  have hXX := hX.out
  have hbA : ∀ o, Below w1.heap.size w1 (w1.alloc o).drew := fun o => ((Below.refl _ _).alloc (Nat.le_refl _) _).drew
  have hcC : ∀ W, Below w1.heap.size w1 W → W.cell? ⟨fb, 1, none⟩ = some vi ∧ W.cell? ⟨gb, 0, none⟩ = some (.int .i64 i0') ∧ W.cell? ⟨gb, 1, none⟩ = some (.int .i64 i1) ∧ W.cell? ⟨gb, 2, none⟩ = some (.int .i64 i2) ∧ W.cell? ⟨gb, 3, none⟩ = some (.int .i64 i3) ∧ W.cell? ⟨gb, 4, none⟩ = some (.int .u32 i4) := fun W h =>
    ⟨K.cell_stays h (Nat.le_refl _) FA.out.c1, K.cell_stays h (Nat.le_refl _) g0, K.cell_stays h (Nat.le_refl _) g1, K.cell_stays h (Nat.le_refl _) g2, K.cell_stays h (Nat.le_refl _) g3, K.cell_stays h (Nat.le_refl _) g4⟩
  have hC1 : Hid _ := hcC _ hbD
  have hC2 : Hid _ := fun o => hcC _ (hbA o)
  have F2 : Hid (∀ o, FAt w0 (w1.alloc o).drew fb pc sb most n st m vi) := fun o => FA.out.stays (hbA o)
  have hsz1 : ∀ o, w1.heap.size < (w1.alloc o).drew.heap.size := fun o => by simp
  clear g0 g1 g2 g3 g4 hcC hbD
  refine wp_region_phase 12 [(0, 0), (1, 0), (2, 0), (3, 0), (4, 0), (5, 1), (6, 1), (7, 2), (8, 2), (9, 0), (10, 0), (11, 0), (12, 2)] (fun W => W.cell? ⟨fb, 1, none⟩ = some vi ∧ W.cell? ⟨gb, 0, none⟩ = some (.int .i64 i0') ∧ W.cell? ⟨gb, 1, none⟩ = some (.int .i64 i1) ∧ W.cell? ⟨gb, 2, none⟩ = some (.int .i64 i2) ∧ W.cell? ⟨gb, 3, none⟩ = some (.int .i64 i3) ∧ W.cell? ⟨gb, 4, none⟩ = some (.int .u32 i4)) (by kernel_rfl) (by kernel_rfl) (fun _ _ _ d _ h => by cases d <;> exact h) hC1.out ?_
  repeat (first | (refine wpPlanZ_free (by rfl) (by rfl) (fun W => by (go_simp; try with_reducible rfl)) (fun K hK => ?_); go_simp; refine hK _ ?_; clear hK K) | (refine wpPlanZ_quiet (by rfl) (by rfl) (fun W hW => by (obtain ⟨c1, g0, g1, g2, g3, g4⟩ := hW; go_simp; try with_reducible rfl)) (fun K hK => ?_); go_simp; refine hK _ ?_; clear hK K))
  refine wpPlanZ_serial (by rfl) (by rfl) (fun K hK => ?_)
  go_simp
  refine hK _ _ (fun _ => hC2.out _) ?_
  clear hK K
  rw [hXX] at hnews hone hlen
  have F3 : Hid _ := F2.out (.cells #[.int .i64 i0', .int .i64 i1, .int .i64 i2, .int .i64 i3, .int .u32 i4] 65)
  have hC3 : Hid _ := hC2.out (.cells #[.int .i64 i0', .int .i64 i1, .int .i64 i2, .int .i64 i3, .int .u32 i4] 65)
  have hsz2 := hsz1 (.cells #[.int .i64 i0', .int .i64 i1, .int .i64 i2, .int .i64 i3, .int .u32 i4] 65)
  change ∀ j u, ([.int .i64 i0', .int .i64 i1, .int .i64 i2, .int .i64 i3, .int .u32 i4] : List Value)[j]? = some u → (w1.alloc (.cells #[.int .i64 i0', .int .i64 i1, .int .i64 i2, .int .i64 i3, .int .u32 i4] 65)).drew.cell? ((⟨w1.heap.size, 0, none⟩ : Addr).add j) = some u at hnews
  have hk2 : Hid (∀ k, k < w.heap.size → (w1.alloc (.cells #[.int .i64 i0', .int .i64 i1, .int .i64 i2, .int .i64 i3, .int .u32 i4] 65)).drew.heap[k]? = w.heap[k]?) := fun k hk => ((hbA _).block k (by omega)).trans (hkw.out k hk)
  clear F2 hC2 hC1 hsz1 FA hbA
  generalize (w1.alloc (.cells #[.int .i64 i0', .int .i64 i1, .int .i64 i2, .int .i64 i3, .int .u32 i4] 65)).drew = w2 at *
  have hbase : w0.heap.size ≤ w2.heap.size := F3.out.be.size
  have hgb2 : gb < w2.heap.size := World.block_lt_of_cell? _ _ hC3.out.2.1
  refine wpPlanZ_serial (by rfl) (by rfl) (fun K hK => ?_)
  refine oper_append_moved _ _ 48 rfl w0.heap.size 65 i0 _ 5 40 Tryd.underlying48 hi hz0 hz1 hz2 rfl (by decide) vi n (insL m pc n) rfl F3.out.row ⟨w1.heap.size, 0, none⟩ 1 1 [.int .i64 i0', .int .i64 i1, .int .i64 i2, .int .i64 i3, .int .u32 i4] rfl hlen hnews hone (by unfold maxLen; omega) (by omega) hbase ?_
  intro v' w4 ho hg hm
  rw [← hXX] at ho
  obtain ⟨g', cap', rfl⟩ := owns_pos ho
  have hp := F3.out.put ho hg hm
  obtain ⟨⟨hc1, hf1⟩, F4⟩ := hp
  have hgk : w4.heap[gb]? = w2.heap[gb]? := hg.block gb hgb2 (fun e => hvg gb e.symm rfl)
  have gc : ∀ (j : Nat) (v : Value), w2.cell? ⟨gb, j, none⟩ = some v → w4.cell? ⟨gb, j, none⟩ = some v := fun j v e => (World.cell?_of_block (a := ⟨gb, j, none⟩) hgk).trans e
  have hq := hC3.out
  refine hK _ _ (fun _ => ⟨hc1, gc _ _ hq.2.1, gc _ _ hq.2.2.1, gc _ _ hq.2.2.2.1, gc _ _ hq.2.2.2.2.1, gc _ _ hq.2.2.2.2.2⟩) ?_
  have hC4 : Hid (w4.cell? ⟨gb, 0, none⟩ = some (.int .i64 i0') ∧ w4.cell? ⟨gb, 1, none⟩ = some (.int .i64 i1) ∧ w4.cell? ⟨gb, 2, none⟩ = some (.int .i64 i2) ∧ w4.cell? ⟨gb, 3, none⟩ = some (.int .i64 i3) ∧ w4.cell? ⟨gb, 4, none⟩ = some (.int .u32 i4)) := ⟨gc _ _ hq.2.1, gc _ _ hq.2.2.1, gc _ _ hq.2.2.2.1, gc _ _ hq.2.2.2.2.1, gc _ _ hq.2.2.2.2.2⟩
  clear hK K gc hgk hq hC3
  repeat (first | (refine wpPlanZ_free (by rfl) (by rfl) (fun W => by (go_simp; try with_reducible rfl)) (fun K hK => ?_); go_simp; refine hK _ ?_; clear hK K))
  refine wpPlanZ_serial (by rfl) (by rfl) (fun K hK => ?_)
  go_simp
  refine hK _ _ (fun h => absurd h (by decide)) ?_
  clear hK K
  refine wpPlanZ_nil ?_
  have hT : Hid (TKept w (w4.setCell ⟨fb, 1, none⟩ (.slice (some ⟨g', 0, none⟩) (n + 1) cap')) fb vi) := TKept.set (fun k h1 h2 h3 => (hg.block k (by omega) (fun e => h3 e.symm)).trans (hk2.out k h1)) 1 _
  clear hC4 hg hm ho hc1 hf1
  have F5 : Hid _ := F4
  generalize w4.setCell ⟨fb, 1, none⟩ (.slice (some ⟨g', 0, none⟩) (n + 1) cap') = w5 at *
  clear F4 F3
  have c5 := F5.out.c5
  have f5 := F5.out.fz 5
  have hst' : (st : Int) ≤ 8 := by omega
  have F6 : Hid _ := F5.out.count (st + 1)
  have hT6 : Hid _ := hT.out.set 5 (.int .i64 ((st + 1 : Nat) : Int))
  rcases hk with rfl | rfl | rfl | rfl
  · rw [show kwV 1 = .string ⟨#[115, 117, 109]⟩ from rfl]
    go_wp2
    go_end0
    exact ⟨rfl, hT.out, _, F5.out⟩
  · rw [show kwV 2 = .string ⟨#[98, 114, 97, 110, 99, 104]⟩ from rfl]
    go_wp2
    go_end0
    exact ⟨rfl, hT.out, _, F5.out⟩
  · rw [show kwV 4 = .string ⟨#[108, 111, 97, 100]⟩ from rfl]
    go_wp2
    go_end0
    exact ⟨rfl, hT.out, _, F5.out⟩
  · rw [show kwV 5 = .string ⟨#[115, 116, 111, 114, 101]⟩ from rfl]
    go_wp2
    go_end0
    exact ⟨rfl, hT6.out, _, F6.out⟩
end
end Go.Proofs.YtckcbnfobjmhpaaDoor
/-
  A region goes on by what stands next, or ends.
-/
namespace Go.Proofs.YtckcbnfobjmhpaaDoor
open Go.RowKit Go.Maps
open Num
set_option linter.unusedVariables false
section
variable {w0 w : World} {fb : Nat} {pc : Int} {sb most n st bp bw bh N : Nat} {m : Nat → Int} {wt ht : Int → Bool} {vi : Value}
/-- what a region's forming hangs on -/
structure Gd (ps pa pf pk pb : Addr) (w0 : World) (sb bp bw bh N : Nat) (m : Nat → Int) (wt ht : Int → Bool) (pc : Int) (most : Nat) : Prop where
  E : Er ps pa pf w0
  T : K.Tb pk pb w0
  R : RamIs w0 sb bp bw bh N m wt ht
  p0 : 0 ≤ pc
  p1 : pc < 16384
  p4 : pc % 4 = 0
  mo : most ≤ 24
variable {ps pa pf pk pb : Addr}
theorem look_no (G : Gd ps pa pf pk pb w0 sb bp bw bh N m wt ht pc most) (F : FAt w0 w fb pc sb most n st m vi) (fu : Nat) (hn : n ≤ most) (hfu : fu ≤ 1) (hst : st ≤ 8) (h : lkP (kdAt m pc) (many pc) most (n + fu) st = false) :
    Calls Tryd.prog 67 #[.pointer (some ⟨fb, 0, none⟩), .int .i64 fu] w fun e w' => ∃ i0 i1 i2 i3 i4 s, e = .returned (.tuple #[K.ins i0 i1 i2 i3 i4, .string s, .bool false]) ∧ Below w.heap.size w w' := by
  have := G.mo
  by_cases h1 : n + fu < most
  · by_cases h2 : n + fu < many pc
    · refine (look_in pk pb G.T G.R F fu G.p0 G.p1 G.p4 (by omega) hfu G.mo hst h1 h2).mono ?_
      rintro e w' ⟨rfl, hb⟩
      exact ⟨_, _, _, _, _, _, by rw [h]; rfl, hb⟩
    · refine (look_far ps pa pf G.E F fu G.p0 G.p1 G.p4 (by omega) hfu G.mo h1 (by omega)).mono ?_
      rintro e w' ⟨rfl, hb⟩
      exact ⟨_, _, _, _, _, _, rfl, hb⟩
  · refine (look_full F fu (by omega) hfu G.mo (by omega)).mono ?_
    rintro e w' ⟨rfl, hb⟩
    exact ⟨_, _, _, _, _, _, rfl, hb⟩
theorem look_yes (G : Gd ps pa pf pk pb w0 sb bp bw bh N m wt ht pc most) (F : FAt w0 w fb pc sb most n st m vi) (fu : Nat) (hn : n ≤ most) (hfu : fu ≤ 1) (hst : st ≤ 8) (h : lkP (kdAt m pc) (many pc) most (n + fu) st = true) :
    Calls Tryd.prog 67 #[.pointer (some ⟨fb, 0, none⟩), .int .i64 fu] w fun e w' => e = .returned (.tuple #[insV (wAt m pc (n + fu)), kwV (kdAt m pc (n + fu)), .bool true]) ∧ Below w.heap.size w w' := by
  have := G.mo
  have h' := lkP_iff.1 h
  refine (look_in pk pb G.T G.R F fu G.p0 G.p1 G.p4 (by omega) hfu G.mo hst h'.1 h'.2.1).mono ?_
  rintro e w' ⟨rfl, hb⟩
  exact ⟨by rw [h], hb⟩
set_option maxRecDepth 100000 in
set_option maxHeartbeats 4000000 in
theorem goOn_stop (G : Gd ps pa pf pk pb w0 sb bp bw bh N m wt ht pc most) (F : FAt w0 w fb pc sb most n st m vi) (hn : n ≤ most) (hst : st ≤ 8) (h : lkP (kdAt m pc) (many pc) most n st = false) :
    Calls Tryd.prog 46 #[.pointer (some ⟨fb, 0, none⟩)] w fun e w' => e = .returned (.bool false) ∧ FAt w0 w' fb pc sb most n st m vi := by
  have hl := look_no G F 0 hn (by omega) hst h
  have FH : Hid (FAt w0 w fb pc sb most n st m vi) := F
  clear F G h
  go_enter Tryd.func46, Tryd.ntmps46
  go_wp2_with fail
  refine hl.mono ?_
  rintro e w1 ⟨i0, i1, i2, i3, i4, s, rfl, hb⟩
  clear hl
  go_wp2
  go_ret
  have hA : Below w1.heap.size w1 (w1.alloc (.cells #[.int .i64 i0, .int .i64 i1, .int .i64 i2, .int .i64 i3, .int .u32 i4] 65)) := (Below.refl _ _).alloc (Nat.le_refl _) _
  exact ⟨rfl, (FH.out.stays hb).stays hA⟩
set_option maxRecDepth 100000 in
set_option maxHeartbeats 4000000 in
theorem goOn_one (G : Gd ps pa pf pk pb w0 sb bp bw bh N m wt ht pc most) (F : FAt w0 w fb pc sb most n st m vi) (hn : n ≤ most) (hst : st ≤ 8) (h : lkP (kdAt m pc) (many pc) most n st = true) (h2 : kdAt m pc n ≠ 2) :
    Calls Tryd.prog 46 #[.pointer (some ⟨fb, 0, none⟩)] w fun e w' => e = .returned (.bool true) ∧ ∃ vi', FAt w0 w' fb pc sb most (n + 1) (stP (kdAt m pc) n st) m vi' := by
  have hl := look_yes G F 0 hn (by omega) hst h
  have FH : Hid (FAt w0 w fb pc sb most n st m vi) := F
  have hk : kdAt m pc n = 1 ∨ kdAt m pc n = 4 ∨ kdAt m pc n = 5 := by
    have := (lkP_iff.1 h).2.2.1
    rcases knd_in (wAt m pc n) with e | e | e | e | e <;> (change kdAt m pc n = _ at e; omega)
  have ht : ∀ W, FAt w0 W fb pc sb most n st m vi → _ := fun W FW => take_any FW (by have := G.mo; omega) hst (kdAt m pc n) (by omega)
  have hS : (if kdAt m pc n = 5 then st + 1 else st) = stP (kdAt m pc) n st := rfl
  rw [hS] at ht
  have hX : insV (wAt m pc n) = K.ins (decK (wAt m pc n)) (Tab.xs (Tab.sh (decK (wAt m pc n))) (wAt m pc n)) (Tab.xt (Tab.sh (decK (wAt m pc n))) (wAt m pc n)) (Tab.xd (Tab.sh (decK (wAt m pc n))) (wAt m pc n)) (Tab.xm (Tab.sh (decK (wAt m pc n))) (wAt m pc n)) := rfl
  rw [Nat.add_zero] at hl
  rw [hX] at ht hl
  clear F G h hX hS
  generalize Tab.xs (Tab.sh (decK (wAt m pc n))) (wAt m pc n) = i1 at *
  generalize Tab.xt (Tab.sh (decK (wAt m pc n))) (wAt m pc n) = i2 at *
  generalize Tab.xd (Tab.sh (decK (wAt m pc n))) (wAt m pc n) = i3 at *
  generalize Tab.xm (Tab.sh (decK (wAt m pc n))) (wAt m pc n) = i4 at *
  generalize decK (wAt m pc n) = i0 at *
  generalize stP (kdAt m pc) n st = st' at *
  generalize kdAt m pc n = kd at *
  rcases hk with rfl | rfl | rfl
  all_goals
    (first
     | rw [show kwV 1 = .string ⟨#[115, 117, 109]⟩ from rfl] at ht hl
     | rw [show kwV 4 = .string ⟨#[108, 111, 97, 100]⟩ from rfl] at ht hl
     | rw [show kwV 5 = .string ⟨#[115, 116, 111, 114, 101]⟩ from rfl] at ht hl)
    go_enter Tryd.func46, Tryd.ntmps46
    go_wp2_with fail
    refine hl.mono ?_
    rintro e w1 ⟨rfl, hb⟩
    clear hl
    go_wp2_with fail
    refine (ht _ ((FH.out.stays hb).stays ((Below.refl _ _).alloc (Nat.le_refl _) _))).mono ?_
    rintro e w2 ⟨rfl, _, vi', F2⟩
    go_wp2
    go_ret
    exact ⟨rfl, vi', F2⟩
set_option maxRecDepth 100000 in
set_option maxHeartbeats 4000000 in
/-- a branch that has no slot -/
theorem goOn_no (G : Gd ps pa pf pk pb w0 sb bp bw bh N m wt ht pc most) (F : FAt w0 w fb pc sb most n st m vi) (hn : n ≤ most) (hst : st ≤ 8) (h : lkP (kdAt m pc) (many pc) most n st = true) (h2 : kdAt m pc n = 2) (h3 : lkP (kdAt m pc) (many pc) most (n + 1) st = false) :
    Calls Tryd.prog 46 #[.pointer (some ⟨fb, 0, none⟩)] w fun e w' => e = .returned (.bool false) ∧ FAt w0 w' fb pc sb most n st m vi := by
  have hl := look_yes G F 0 hn (by omega) hst h
  have FH : Hid (FAt w0 w fb pc sb most n st m vi) := F
  have hl1 : ∀ W, FAt w0 W fb pc sb most n st m vi → _ := fun W FW => look_no G FW 1 hn (by omega) hst h3
  have hX : insV (wAt m pc n) = K.ins (decK (wAt m pc n)) (Tab.xs (Tab.sh (decK (wAt m pc n))) (wAt m pc n)) (Tab.xt (Tab.sh (decK (wAt m pc n))) (wAt m pc n)) (Tab.xd (Tab.sh (decK (wAt m pc n))) (wAt m pc n)) (Tab.xm (Tab.sh (decK (wAt m pc n))) (wAt m pc n)) := rfl
  rw [Nat.add_zero, h2, show kwV 2 = .string ⟨#[98, 114, 97, 110, 99, 104]⟩ from rfl] at hl
  rw [hX] at hl
  clear F G h hX h3
  generalize Tab.xs (Tab.sh (decK (wAt m pc n))) (wAt m pc n) = i1 at *
  generalize Tab.xt (Tab.sh (decK (wAt m pc n))) (wAt m pc n) = i2 at *
  generalize Tab.xd (Tab.sh (decK (wAt m pc n))) (wAt m pc n) = i3 at *
  generalize Tab.xm (Tab.sh (decK (wAt m pc n))) (wAt m pc n) = i4 at *
  generalize decK (wAt m pc n) = i0 at *
  go_enter Tryd.func46, Tryd.ntmps46
  go_wp2_with fail
  refine hl.mono ?_
  rintro e w1 ⟨rfl, hb⟩
  clear hl
  have hA : Below w1.heap.size w1 (w1.alloc (.cells #[.int .i64 i0, .int .i64 i1, .int .i64 i2, .int .i64 i3, .int .u32 i4] 65)) := (Below.refl _ _).alloc (Nat.le_refl _) _
  have F1 : Hid _ := (FH.out.stays hb).stays hA
  clear FH hb hA
  go_wp2_with fail
  refine (hl1 _ F1.out).mono ?_
  rintro e w2 ⟨j0, j1, j2, j3, j4, s, rfl, hb⟩
  clear hl1
  go_wp2
  go_ret
  have hA2 : Below w2.heap.size w2 (w2.alloc (.cells #[.int .i64 j0, .int .i64 j1, .int .i64 j2, .int .i64 j3, .int .u32 j4] 65)) := (Below.refl _ _).alloc (Nat.le_refl _) _
  exact ⟨rfl, (F1.out.stays hb).stays hA2⟩
set_option maxRecDepth 100000 in
set_option maxHeartbeats 4000000 in
/-- a branch with a branch behind it -/
theorem goOn_br (G : Gd ps pa pf pk pb w0 sb bp bw bh N m wt ht pc most) (F : FAt w0 w fb pc sb most n st m vi) (hn : n ≤ most) (hst : st ≤ 8) (h : lkP (kdAt m pc) (many pc) most n st = true) (h2 : kdAt m pc n = 2) (h3 : lkP (kdAt m pc) (many pc) most (n + 1) st = true) (h4 : kdAt m pc (n + 1) = 2) :
    Calls Tryd.prog 46 #[.pointer (some ⟨fb, 0, none⟩)] w fun e w' => e = .returned (.bool false) ∧ FAt w0 w' fb pc sb most n st m vi := by
  have hl := look_yes G F 0 hn (by omega) hst h
  have FH : Hid (FAt w0 w fb pc sb most n st m vi) := F
  have hl1 : ∀ W, FAt w0 W fb pc sb most n st m vi → _ := fun W FW => look_yes G FW 1 hn (by omega) hst h3
  have hX : insV (wAt m pc n) = K.ins (decK (wAt m pc n)) (Tab.xs (Tab.sh (decK (wAt m pc n))) (wAt m pc n)) (Tab.xt (Tab.sh (decK (wAt m pc n))) (wAt m pc n)) (Tab.xd (Tab.sh (decK (wAt m pc n))) (wAt m pc n)) (Tab.xm (Tab.sh (decK (wAt m pc n))) (wAt m pc n)) := rfl
  rw [Nat.add_zero, h2, show kwV 2 = .string ⟨#[98, 114, 97, 110, 99, 104]⟩ from rfl] at hl
  rw [hX] at hl
  rw [h4, show kwV 2 = .string ⟨#[98, 114, 97, 110, 99, 104]⟩ from rfl, show insV (wAt m pc (n + 1)) = K.ins (decK (wAt m pc (n + 1))) (Tab.xs (Tab.sh (decK (wAt m pc (n + 1)))) (wAt m pc (n + 1))) (Tab.xt (Tab.sh (decK (wAt m pc (n + 1)))) (wAt m pc (n + 1))) (Tab.xd (Tab.sh (decK (wAt m pc (n + 1)))) (wAt m pc (n + 1))) (Tab.xm (Tab.sh (decK (wAt m pc (n + 1)))) (wAt m pc (n + 1))) from rfl] at hl1
  clear F G h hX h3
  generalize Tab.xs (Tab.sh (decK (wAt m pc n))) (wAt m pc n) = i1 at *
  generalize Tab.xt (Tab.sh (decK (wAt m pc n))) (wAt m pc n) = i2 at *
  generalize Tab.xd (Tab.sh (decK (wAt m pc n))) (wAt m pc n) = i3 at *
  generalize Tab.xm (Tab.sh (decK (wAt m pc n))) (wAt m pc n) = i4 at *
  generalize decK (wAt m pc n) = i0 at *
  generalize Tab.xs (Tab.sh (decK (wAt m pc (n + 1)))) (wAt m pc (n + 1)) = j1 at *
  generalize Tab.xt (Tab.sh (decK (wAt m pc (n + 1)))) (wAt m pc (n + 1)) = j2 at *
  generalize Tab.xd (Tab.sh (decK (wAt m pc (n + 1)))) (wAt m pc (n + 1)) = j3 at *
  generalize Tab.xm (Tab.sh (decK (wAt m pc (n + 1)))) (wAt m pc (n + 1)) = j4 at *
  generalize decK (wAt m pc (n + 1)) = j0 at *
  go_enter Tryd.func46, Tryd.ntmps46
  go_wp2_with fail
  refine hl.mono ?_
  rintro e w1 ⟨rfl, hb⟩
  clear hl
  have hA : Below w1.heap.size w1 (w1.alloc (.cells #[.int .i64 i0, .int .i64 i1, .int .i64 i2, .int .i64 i3, .int .u32 i4] 65)) := (Below.refl _ _).alloc (Nat.le_refl _) _
  have F1 : Hid _ := (FH.out.stays hb).stays hA
  clear FH hb hA
  go_wp2_with fail
  refine (hl1 _ F1.out).mono ?_
  rintro e w2 ⟨rfl, hb⟩
  clear hl1
  go_wp2
  go_ret
  have hA2 : Below w2.heap.size w2 (w2.alloc (.cells #[.int .i64 j0, .int .i64 j1, .int .i64 j2, .int .i64 j3, .int .u32 j4] 65)) := (Below.refl _ _).alloc (Nat.le_refl _) _
  exact ⟨rfl, (F1.out.stays hb).stays hA2⟩
set_option maxRecDepth 100000 in
set_option maxHeartbeats 4000000 in
/-- a branch and its slot -/
theorem goOn_two (G : Gd ps pa pf pk pb w0 sb bp bw bh N m wt ht pc most) (F : FAt w0 w fb pc sb most n st m vi) (hn : n ≤ most) (hst : st ≤ 8) (h : lkP (kdAt m pc) (many pc) most n st = true) (h2 : kdAt m pc n = 2) (h3 : lkP (kdAt m pc) (many pc) most (n + 1) st = true) (h4 : kdAt m pc (n + 1) ≠ 2) :
    Calls Tryd.prog 46 #[.pointer (some ⟨fb, 0, none⟩)] w fun e w' => e = .returned (.bool false) ∧ ∃ st' vi', FAt w0 w' fb pc sb most (n + 2) st' m vi' := by
  have hl := look_yes G F 0 hn (by omega) hst h
  have FH : Hid (FAt w0 w fb pc sb most n st m vi) := F
  have hl1 : ∀ W, FAt w0 W fb pc sb most n st m vi → _ := fun W FW => look_yes G FW 1 hn (by omega) hst h3
  have hk : kdAt m pc (n + 1) = 1 ∨ kdAt m pc (n + 1) = 4 ∨ kdAt m pc (n + 1) = 5 := by
    have := (lkP_iff.1 h3).2.2.1
    rcases knd_in (wAt m pc (n + 1)) with e | e | e | e | e <;> (change kdAt m pc (n + 1) = _ at e; omega)
  have hm24 := G.mo
  have hroom := (lkP_iff.1 h3).1
  have ht : ∀ W, FAt w0 W fb pc sb most n st m vi → _ := fun W FW => take_any FW (by omega) hst 2 (by omega)
  have ht1 : ∀ W v', FAt w0 W fb pc sb most (n + 1) st m v' → _ := fun W v' FW => take_any FW (by omega) hst (kdAt m pc (n + 1)) (by omega)
  have hX : insV (wAt m pc n) = K.ins (decK (wAt m pc n)) (Tab.xs (Tab.sh (decK (wAt m pc n))) (wAt m pc n)) (Tab.xt (Tab.sh (decK (wAt m pc n))) (wAt m pc n)) (Tab.xd (Tab.sh (decK (wAt m pc n))) (wAt m pc n)) (Tab.xm (Tab.sh (decK (wAt m pc n))) (wAt m pc n)) := rfl
  rw [Nat.add_zero, h2, show kwV 2 = .string ⟨#[98, 114, 97, 110, 99, 104]⟩ from rfl] at hl
  rw [show kwV 2 = .string ⟨#[98, 114, 97, 110, 99, 104]⟩ from rfl, show (if 2 = 5 then st + 1 else st) = st from rfl] at ht
  have hX1 : insV (wAt m pc (n + 1)) = K.ins (decK (wAt m pc (n + 1))) (Tab.xs (Tab.sh (decK (wAt m pc (n + 1)))) (wAt m pc (n + 1))) (Tab.xt (Tab.sh (decK (wAt m pc (n + 1)))) (wAt m pc (n + 1))) (Tab.xd (Tab.sh (decK (wAt m pc (n + 1)))) (wAt m pc (n + 1))) (Tab.xm (Tab.sh (decK (wAt m pc (n + 1)))) (wAt m pc (n + 1))) := rfl
  rw [hX] at hl ht
  rw [hX1] at hl1 ht1
  clear F G h hX h3 hX1 h4
  generalize Tab.xs (Tab.sh (decK (wAt m pc n))) (wAt m pc n) = i1 at *
  generalize Tab.xt (Tab.sh (decK (wAt m pc n))) (wAt m pc n) = i2 at *
  generalize Tab.xd (Tab.sh (decK (wAt m pc n))) (wAt m pc n) = i3 at *
  generalize Tab.xm (Tab.sh (decK (wAt m pc n))) (wAt m pc n) = i4 at *
  generalize decK (wAt m pc n) = i0 at *
  generalize Tab.xs (Tab.sh (decK (wAt m pc (n + 1)))) (wAt m pc (n + 1)) = j1 at *
  generalize Tab.xt (Tab.sh (decK (wAt m pc (n + 1)))) (wAt m pc (n + 1)) = j2 at *
  generalize Tab.xd (Tab.sh (decK (wAt m pc (n + 1)))) (wAt m pc (n + 1)) = j3 at *
  generalize Tab.xm (Tab.sh (decK (wAt m pc (n + 1)))) (wAt m pc (n + 1)) = j4 at *
  generalize decK (wAt m pc (n + 1)) = j0 at *
  generalize kdAt m pc (n + 1) = kd at *
  rcases hk with rfl | rfl | rfl
  all_goals
    (first
     | rw [show kwV 1 = .string ⟨#[115, 117, 109]⟩ from rfl] at ht1 hl1
     | rw [show kwV 4 = .string ⟨#[108, 111, 97, 100]⟩ from rfl] at ht1 hl1
     | rw [show kwV 5 = .string ⟨#[115, 116, 111, 114, 101]⟩ from rfl] at ht1 hl1)
    go_enter Tryd.func46, Tryd.ntmps46
    go_wp2_with fail
    refine hl.mono ?_
    rintro e w1 ⟨rfl, hb⟩
    clear hl
    have hA : Below w1.heap.size w1 (w1.alloc (.cells #[.int .i64 i0, .int .i64 i1, .int .i64 i2, .int .i64 i3, .int .u32 i4] 65)) := (Below.refl _ _).alloc (Nat.le_refl _) _
    have F1 : Hid _ := (FH.out.stays hb).stays hA
    have a0 : (w1.alloc (.cells #[.int .i64 i0, .int .i64 i1, .int .i64 i2, .int .i64 i3, .int .u32 i4] 65)).cell? ⟨w1.heap.size, 0, none⟩ = some (.int .i64 i0) := by simp
    have a1 : (w1.alloc (.cells #[.int .i64 i0, .int .i64 i1, .int .i64 i2, .int .i64 i3, .int .u32 i4] 65)).cell? ⟨w1.heap.size, 1, none⟩ = some (.int .i64 i1) := by simp
    have a2 : (w1.alloc (.cells #[.int .i64 i0, .int .i64 i1, .int .i64 i2, .int .i64 i3, .int .u32 i4] 65)).cell? ⟨w1.heap.size, 2, none⟩ = some (.int .i64 i2) := by simp
    have a3 : (w1.alloc (.cells #[.int .i64 i0, .int .i64 i1, .int .i64 i2, .int .i64 i3, .int .u32 i4] 65)).cell? ⟨w1.heap.size, 3, none⟩ = some (.int .i64 i3) := by simp
    have a4 : (w1.alloc (.cells #[.int .i64 i0, .int .i64 i1, .int .i64 i2, .int .i64 i3, .int .u32 i4] 65)).cell? ⟨w1.heap.size, 4, none⟩ = some (.int .u32 i4) := by simp
    clear FH hb hA
    go_wp2_with fail
    generalize w1.alloc (.cells #[.int .i64 i0, .int .i64 i1, .int .i64 i2, .int .i64 i3, .int .u32 i4] 65) = w1a at *
    generalize w1.heap.size = g1 at *
    refine (hl1 _ F1.out).mono ?_
    rintro e w2 ⟨rfl, hb⟩
    clear hl1
    have hA2 : Below w2.heap.size w2 (w2.alloc (.cells #[.int .i64 j0, .int .i64 j1, .int .i64 j2, .int .i64 j3, .int .u32 j4] 65)) := (Below.refl _ _).alloc (Nat.le_refl _) _
    have F2 : Hid _ := (F1.out.stays hb).stays hA2
    have hB2 := hb.trans (hA2.mono hb.size)
    have q0 := K.cell_stays hB2 (Nat.le_refl _) a0
    have q1 := K.cell_stays hB2 (Nat.le_refl _) a1
    have q2 := K.cell_stays hB2 (Nat.le_refl _) a2
    have q3 := K.cell_stays hB2 (Nat.le_refl _) a3
    have q4 := K.cell_stays hB2 (Nat.le_refl _) a4
    have b0 : (w2.alloc (.cells #[.int .i64 j0, .int .i64 j1, .int .i64 j2, .int .i64 j3, .int .u32 j4] 65)).cell? ⟨w2.heap.size, 0, none⟩ = some (.int .i64 j0) := by simp
    have b1 : (w2.alloc (.cells #[.int .i64 j0, .int .i64 j1, .int .i64 j2, .int .i64 j3, .int .u32 j4] 65)).cell? ⟨w2.heap.size, 1, none⟩ = some (.int .i64 j1) := by simp
    have b2 : (w2.alloc (.cells #[.int .i64 j0, .int .i64 j1, .int .i64 j2, .int .i64 j3, .int .u32 j4] 65)).cell? ⟨w2.heap.size, 2, none⟩ = some (.int .i64 j2) := by simp
    have b3 : (w2.alloc (.cells #[.int .i64 j0, .int .i64 j1, .int .i64 j2, .int .i64 j3, .int .u32 j4] 65)).cell? ⟨w2.heap.size, 3, none⟩ = some (.int .i64 j3) := by simp
    have b4 : (w2.alloc (.cells #[.int .i64 j0, .int .i64 j1, .int .i64 j2, .int .i64 j3, .int .u32 j4] 65)).cell? ⟨w2.heap.size, 4, none⟩ = some (.int .u32 j4) := by simp
    have hg2 : w2.heap.size < (w2.alloc (.cells #[.int .i64 j0, .int .i64 j1, .int .i64 j2, .int .i64 j3, .int .u32 j4] 65)).heap.size := by simp
    have hfb2 : fb < w2.heap.size := (F1.out.stays hb).lt
    have hvb2 : ∀ k, vi.ownBlock = some k → k < w2.heap.size := fun k e => (owns_lt (F1.out.stays hb).row k e).2
    clear hb hA2 hB2 a0 a1 a2 a3 a4 F1
    go_wp2_with fail
    generalize w2.alloc (.cells #[.int .i64 j0, .int .i64 j1, .int .i64 j2, .int .i64 j3, .int .u32 j4] 65) = w2a at *
    generalize w2.heap.size = g2 at *
    refine (ht _ F2.out).mono ?_
    rintro e w3 ⟨rfl, tk, v3, F3⟩
    have hk3 : w3.heap[g2]? = w2a.heap[g2]? := tk g2 hg2 (by omega) (fun e => by have := hvb2 g2 e; omega)
    have gc : ∀ (j : Nat) (v : Value), w2a.cell? ⟨g2, j, none⟩ = some v → w3.cell? ⟨g2, j, none⟩ = some v := fun j v e => (World.cell?_of_block (a := ⟨g2, j, none⟩) hk3).trans e
    have d0 := gc _ _ b0
    have d1 := gc _ _ b1
    have d2 := gc _ _ b2
    have d3 := gc _ _ b3
    have d4 := gc _ _ b4
    clear ht tk hk3 gc b0 b1 b2 b3 b4 q0 q1 q2 q3 q4 F2
    have F3H : Hid _ := F3
    clear F3
    go_wp2_with fail
    refine (ht1 _ _ F3H.out).mono ?_
    rintro e w4 ⟨rfl, _, v4, F4⟩
    clear ht1
    go_wp2
    go_ret
    exact ⟨rfl, _, v4, F4⟩
end
end Go.Proofs.YtckcbnfobjmhpaaDoor
/-
  The pages of a region, its length, how it ends; what it is asked of.
-/
namespace Go.Proofs.YtckcbnfobjmhpaaDoor
open Go.RowKit Go.Maps
open Num
set_option linter.unusedVariables false
theorem info3 : (Tryd.prog.info? 3).map (fun i => (i.zero, i.size, i.bytes)) = some (some (.int .i64 0), 1, 8) := by kernel_rfl
/-- numbers one behind the other -/
def pgV (a : Int) (k : Nat) : List Value := (List.range k).map fun i : Nat => .int .i64 (a + i)
theorem pgV_succ (a : Int) (k : Nat) : pgV a (k + 1) = pgV a k ++ [.int .i64 (a + k)] := by unfold pgV; rw [List.range_succ, List.map_append]; rfl
theorem pgV_len (a : Int) (k : Nat) : (pgV a k).length = k := by simp [pgV]
/-- how many pages -/
def cntP (pc : Int) (n : Nat) : Nat := ((pc + 4 * n - 1) / 256 - pc / 256 + 1).toNat
section
variable {w : World}
set_option maxHeartbeats 1000000 in
theorem len_any (pc : Int) (p : Option Addr) (n c : Nat) (q : Option Addr) (l c2 : Nat) (hn : n ≤ 10000) : Calls Tryd.prog 30 #[.agg #[.int .u32 pc, .slice p n c, .slice q l c2]] w fun e w' => e = .returned (.int .i64 (4 * n)) ∧ Below w.heap.size w w' := by
  have hn' : (n : Int) ≤ 10000 := by omega
  go_enter Tryd.func30, Tryd.ntmps30
  go_wp2
  go_ret
  exact ⟨rfl, (Below.refl _ _).alloc (Nat.le_refl _) _⟩
set_option maxRecDepth 100000 in
set_option maxHeartbeats 4000000 in
theorem pagesOf_any (pc : Int) (h0 : 0 ≤ pc) (h1 : pc < 16384) (p : Option Addr) (n c : Nat) (q : Option Addr) (l c2 : Nat) (hn0 : 1 ≤ n) (hn : n ≤ 24) :
    Calls Tryd.prog 47 #[.agg #[.int .u32 pc, .slice p n c, .slice q l c2]] w fun e w' => ∃ vp, e = .returned vp ∧ w'.ownsRow w.heap.size 3 1 vp (cntP pc n) (pgV (pc / 256) (cntP pc n)) ∧ Below w.heap.size w w' := by
  obtain ⟨i0, hi, hz0, hz1, hz2⟩ := info_parts info3
  have hlen := fun W => len_any (w := W) pc p n c q l c2 (by omega)
  have hn' : (n : Int) ≤ 24 := by omega
  have hn1 : 1 ≤ (n : Int) := by omega
  have hcn : (cntP pc n : Int) = (pc + 4 * n - 1) / 256 - pc / 256 + 1 := by unfold cntP; omega
  have hc3 : cntP pc n ≤ 3 := by unfold cntP; omega
  generalize cntP pc n = cnt at *
  go_enter Tryd.func47, Tryd.ntmps47
  go_wp2_with fail
  refine (hlen _).mono ?_
  rintro e w1 ⟨rfl, hb⟩
  clear hlen
  have hb1 : Hid (Below w.heap.size w w1) := ((Below.refl _ _).alloc (Nat.le_refl _) _).trans (hb.mono (by simp))
  clear hb
  go_wp2
  go_loopw [5, 6] (fun vs iv wr => ∃ j : Nat, j ≤ cnt ∧ iv = .int .i64 (pc / 256 + j) ∧ wr.ownsRow w.heap.size 3 1 vs j (pgV (pc / 256) j) ∧ Below w.heap.size w wr) (fun _ iv _ => cnt - (intOf iv - pc / 256).toNat)
  case atStart => exact ⟨0, by omega, by simp, ⟨rfl, Or.inl ⟨rfl, rfl⟩⟩, hb1.out⟩
  case round =>
    obtain ⟨j, hj, rfl, hrow, hbr⟩ := hrel
    have hj3 : (j : Int) ≤ 3 := by omega
    by_cases hlt : j < cnt
    · have hle : decide (pc / 256 + (j : Int) ≤ (pc + 4 * (n : Int) - 1) / 256) = true := by simp; omega
      have hrow2 := hrow.alloc (.cells #[.int .i64 (pc / 256 + j)] 3)
      have hnews : ∀ i u, ([.int .i64 (pc / 256 + j)] : List Value)[i]? = some u → (wr.alloc (.cells #[.int .i64 (pc / 256 + j)] 3)).cell? ((⟨wr.heap.size, 0, none⟩ : Addr).add i) = some u := by
        intro i u h
        have hi0 : i = 0 := by have := (List.getElem?_eq_some_iff.1 h).1; simpa using this
        subst hi0
        rw [add_lit]; simp at h ⊢; exact h
      have hone : ∀ u ∈ ([.int .i64 (pc / 256 + j)] : List Value), u.oneCell' = true := by intro u h; simp at h; subst h; rfl
      have hsz := hbr.size
      have HB : Hid (Below w.heap.size w wr) := hbr
      clear hbr hrow hb1
      go_wp2_with (refine wpList_append_moved rfl _ _ 49 rfl w.heap.size 3 i0 _ 1 8 Tryd.underlying49 hi hz0 hz1 hz2 rfl (by decide) u5 j (pgV (pc / 256) j) rfl hrow2 ⟨wr.heap.size, 0, none⟩ 1 1 [.int .i64 (pc / 256 + j)] rfl rfl hnews hone (by unfold maxLen; omega) (by omega) (by simp; omega) ?_; intro v' w2 ho hg hm)
      go_roundw
      case rel =>
        refine ⟨j + 1, by omega, by go_num, by rw [pgV_succ]; exact ho, ?_⟩
        have hA : Below w.heap.size w (wr.alloc (.cells #[.int .i64 (pc / 256 + j)] 3)) := HB.out.alloc hsz _
        exact ⟨hg.os.trans hA.os, hg.tape.trans hA.tape, hg.output.trans hA.output, Nat.le_trans hA.size hg.size, fun k hk => (hg.block k (Nat.lt_of_lt_of_le hk hA.size) (fun e => by have := (owns_lt hrow2 k e.symm).1; omega)).trans (hA.block k hk)⟩
      case measure => simp [intOf]; omega
    · have hle : decide (pc / 256 + (j : Int) ≤ (pc + 4 * (n : Int) - 1) / 256) = false := by simp; omega
      obtain rfl : j = cnt := by omega
      clear hb1
      go_wp2
      go_ret
      exact ⟨_, rfl, hrow, hbr⟩
set_option maxHeartbeats 4000000 in
/-- how it ends: k: the last but one's operation -/
theorem ends_few (pc : Int) (p : Option Addr) (n c : Nat) (q : Option Addr) (l c2 : Nat) (hn : n < 2) : Calls Tryd.prog 31 #[.agg #[.int .u32 pc, .slice p n c, .slice q l c2]] w fun e w' => e = .returned (.string ⟨#[111, 110]⟩) ∧ Below w.heap.size w w' := by
  have hn' : decide (2 ≤ (n : Int)) = false := by simp; omega
  go_enter Tryd.func31, Tryd.ntmps31
  go_wp2
  go_ret
  exact ⟨rfl, (Below.refl _ _).alloc (Nat.le_refl _) _⟩
set_option maxRecDepth 100000 in
set_option maxHeartbeats 4000000 in
theorem ends_any (pc : Int) (g n c : Nat) (q : Option Addr) (l c2 : Nat) (hn : 2 ≤ n) (hn1 : n ≤ 24) (k : Nat) (hk : k < 54) (hc : w.cell? ⟨g, (n - 2) * 5, none⟩ = some (.int .i64 k)) : Calls Tryd.prog 31 #[.agg #[.int .u32 pc, .slice (some ⟨g, 0, none⟩) n c, .slice q l c2]] w fun e w' => e = .returned (.string (if Tab.kdL.getD k 0 = 2 then ⟨#[98, 114, 97, 110, 99, 104]⟩ else ⟨#[111, 110]⟩)) ∧ Below w.heap.size w w' := by
  have hn' : decide (2 ≤ (n : Int)) = true := by simp; omega
  have hgl : g < w.heap.size := World.block_lt_of_cell? _ _ hc
  have hc' : (w.alloc (.cells #[.int .u32 pc, .slice (some ⟨g, 0, none⟩) n c, .slice q l c2] 51)).cell? ⟨g, (n - 2) * 5, none⟩ = some (.int .i64 k) := by
    rw [World.cell?_alloc_lt _ _ _ hgl]; exact hc
  have hki := fun W => K.kind_nat k hk _ rfl W
  have hkk := knd_all k hk
  change ∀ W, Calls Tryd.prog 33 #[.int .i64 k] W fun e w' => e = .returned (.string ⟨(Tab.kwL.getD (Tab.kdL.getD k 0) []).toArray⟩) ∧ w' = W at hki
  generalize Tab.kdL.getD k 0 = kd at *
  have e1 : (n : Int) - 2 = ((n - 2 : Nat) : Int) := by omega
  have hlt : ((n - 2 : Nat) : Int) < n := by omega
  rcases hkk with rfl | rfl | rfl | rfl | rfl
  · rw [show Tab.kwL.getD 1 [] = [115, 117, 109] from rfl] at hki
    go_enter Tryd.func31, Tryd.ntmps31
    go_wp2_with fail
    refine (hki _).mono ?_
    rintro e wk ⟨rfl, hwk⟩
    rw [hwk]; clear hwk wk hki
    go_wp2
    go_ret
    exact ⟨rfl, (Below.refl _ _).alloc (Nat.le_refl _) _⟩
  · rw [show Tab.kwL.getD 2 [] = [98, 114, 97, 110, 99, 104] from rfl] at hki
    go_enter Tryd.func31, Tryd.ntmps31
    go_wp2_with fail
    refine (hki _).mono ?_
    rintro e wk ⟨rfl, hwk⟩
    rw [hwk]; clear hwk wk hki
    go_wp2
    go_ret
    exact ⟨rfl, (Below.refl _ _).alloc (Nat.le_refl _) _⟩
  · rw [show Tab.kwL.getD 3 [] = [116, 114, 97, 112] from rfl] at hki
    go_enter Tryd.func31, Tryd.ntmps31
    go_wp2_with fail
    refine (hki _).mono ?_
    rintro e wk ⟨rfl, hwk⟩
    rw [hwk]; clear hwk wk hki
    go_wp2
    go_ret
    exact ⟨rfl, (Below.refl _ _).alloc (Nat.le_refl _) _⟩
  · rw [show Tab.kwL.getD 4 [] = [108, 111, 97, 100] from rfl] at hki
    go_enter Tryd.func31, Tryd.ntmps31
    go_wp2_with fail
    refine (hki _).mono ?_
    rintro e wk ⟨rfl, hwk⟩
    rw [hwk]; clear hwk wk hki
    go_wp2
    go_ret
    exact ⟨rfl, (Below.refl _ _).alloc (Nat.le_refl _) _⟩
  · rw [show Tab.kwL.getD 5 [] = [115, 116, 111, 114, 101] from rfl] at hki
    go_enter Tryd.func31, Tryd.ntmps31
    go_wp2_with fail
    refine (hki _).mono ?_
    rintro e wk ⟨rfl, hwk⟩
    rw [hwk]; clear hwk wk hki
    go_wp2
    go_ret
    exact ⟨rfl, (Below.refl _ _).alloc (Nat.le_refl _) _⟩
/-- which error: 1 shape, 2 bound, 3 align, 4 far -/
def fchk (pc most : Int) : Nat := if most < 1 ∨ 24 < most then 2 else if pc % 4 ≠ 0 then 3 else if 16384 ≤ pc then 4 else 0
/-- the errors, by number; 5: none -/
def ferr (ps pb pa pf pn : Addr) (n : Nat) : Addr := if n = 1 then ps else if n = 2 then pb else if n = 3 then pa else if n = 4 then pf else pn
set_option maxHeartbeats 4000000 in
theorem check_nil (ps pa pf : Addr) (E : Er ps pa pf w) (pc most : Int) : Calls Tryd.prog 45 #[.pointer none, .int .u32 pc, .int .i64 most] w fun e w' => e = .returned (.iface 192 (.pointer (some ps))) ∧ w' = w := by
  have e1 := E.s
  clear E
  go_enter Tryd.func45, Tryd.ntmps45
  go_wp2
  go_ret
  exact ⟨rfl, rfl⟩
set_option maxHeartbeats 4000000 in
theorem check_bad (ps pa pf pk pb pn : Addr) (E : Er ps pa pf w) (T : K.Tb pk pb w) (sb : Nat) (pc most : Int) (h0 : 0 ≤ pc) (h1 : pc < 4294967296) (h : fchk pc most ≠ 0) : Calls Tryd.prog 45 #[.pointer (some ⟨sb, 0, none⟩), .int .u32 pc, .int .i64 most] w fun e w' => e = .returned (.iface 192 (.pointer (some (ferr ps pb pa pf pn (fchk pc most))))) ∧ w' = w := by
  have e2 := E.a
  have e3 := E.f
  have e4 := T.bound
  clear E T
  unfold fchk at h ⊢
  by_cases b1 : most < 1
  · rw [if_pos (Or.inl b1)]
    have : decide (most < 1) = true := decide_eq_true b1
    go_enter Tryd.func45, Tryd.ntmps45
    go_wp2
    go_ret
    exact ⟨rfl, rfl⟩
  · have d1 : decide (most < 1) = false := decide_eq_false b1
    by_cases b2 : 24 < most
    · rw [if_pos (Or.inr b2)]
      have : decide (24 < most) = true := decide_eq_true b2
      go_enter Tryd.func45, Tryd.ntmps45
      go_wp2
      go_ret
      exact ⟨rfl, rfl⟩
    · have d2 : decide (24 < most) = false := decide_eq_false b2
      rw [if_neg (by omega)] at h ⊢
      by_cases b3 : pc % 4 = 0
      · rw [if_neg (by omega)] at h ⊢
        have d3 : (pc % 4 != 0) = false := by simp [b3]
        by_cases b4 : 16384 ≤ pc
        · rw [if_pos b4]
          have d4 : decide (16384 ≤ pc) = true := decide_eq_true b4
          go_enter Tryd.func45, Tryd.ntmps45
          go_wp2
          go_ret
          exact ⟨rfl, rfl⟩
        · rw [if_neg b4] at h; exact absurd rfl h
      · rw [if_pos b3]
        have d3 : (pc % 4 != 0) = true := by simp [b3]
        go_enter Tryd.func45, Tryd.ntmps45
        go_wp2
        go_ret
        exact ⟨rfl, rfl⟩
set_option maxHeartbeats 4000000 in
theorem check_good (sb : Nat) (pc most : Int) (h0 : 0 ≤ pc) (h1 : pc < 16384) (h4 : pc % 4 = 0) (m0 : 1 ≤ most) (m1 : most ≤ 24) : Calls Tryd.prog 45 #[.pointer (some ⟨sb, 0, none⟩), .int .u32 pc, .int .i64 most] w fun e w' => e = .returned .nilIface ∧ w' = w := by
  have d1 : decide (most < 1) = false := by simp; omega
  have d2 : decide (24 < most) = false := by simp; omega
  have d3 : (pc % 4 != 0) = false := by simp [h4]
  have d4 : decide (16384 ≤ pc) = false := by simp; omega
  go_enter Tryd.func45, Tryd.ntmps45
  go_wp2
  go_ret
  exact ⟨rfl, rfl⟩
end
end Go.Proofs.YtckcbnfobjmhpaaDoor
