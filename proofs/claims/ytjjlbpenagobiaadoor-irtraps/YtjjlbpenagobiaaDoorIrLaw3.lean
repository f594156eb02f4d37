/-
  The statements' own functions: OwnOps, placed.
-/
import Derived.Test.YtjjlbpenagobiaaDoorIrLaw2
import Derived.Test.YtjjlbpenagobiaaDoorIrEqSt
namespace Go.Proofs.YtjjlbpenagobiaaDoor
open Go.RowKit Go.Maps
open Num
set_option linter.unusedVariables false
theorem infoOp : (Tryd.prog.info? 53).map (fun i => (i.zero, i.size, i.bytes)) = some (some (.agg #[.string ⟨#[]⟩, .int .i64 0, .int .i64 0, .int .i64 0, .int .u32 0, .int .i64 0]), 6, 56) := by kernel_rfl
def opL (l : List Opx) : List Value := l.flatMap opC
theorem opL_len (l : List Opx) : (opL l).length = l.length * 6 := by
  induction l with
  | nil => rfl
  | cons q p ih => unfold opL at ih ⊢; rw [List.flatMap_cons, List.length_append, ih]; simp [opC]; omega
theorem opL_get : ∀ (p : List Opx) (j : Nat) (q : Opx) (i : Nat), p[j]? = some q → i < 6 → (opL p)[j * 6 + i]? = (opC q)[i]?
  | [], j, q, i, h, _ => by simp at h
  | r :: p, 0, q, i, h, hi => by
    simp at h; subst h
    show (opC r ++ opL p)[0 * 6 + i]? = _
    rw [List.getElem?_append_left (by simp [opC]; omega)]; simp
  | r :: p, j + 1, q, i, h, hi => by
    show (opC r ++ opL p)[(j + 1) * 6 + i]? = _
    rw [List.getElem?_append_right (by simp [opC]; omega), ← opL_get p j q i (by simpa using h) hi]
    congr 1; simp [opC]; omega
theorem opL_one (l : List Opx) : ∀ u ∈ opL l, u.oneCell' = true := by
  intro u hu
  obtain ⟨o, _, h⟩ := List.mem_flatMap.1 hu
  simp [opC] at h
  rcases h with rfl | rfl | rfl | rfl | rfl | rfl <;> rfl
theorem opL_at {w : World} {b off : Nat} {l : List Opx} (h : ∀ (i : Nat) (o : Opx), l[i]? = some o → ∀ (j : Nat) (u : Value), (opC o)[j]? = some u → w.cell? ⟨b, off + i * 6 + j, none⟩ = some u) : ∀ j u, (opL l)[j]? = some u → w.cell? ((⟨b, off, none⟩ : Addr).add j) = some u := by
  intro j u hj
  have hlt : j < l.length * 6 := by have := (List.getElem?_eq_some_iff.1 hj).1; rwa [opL_len] at this
  have hi : j / 6 < l.length := by omega
  have ho : l[j / 6]? = some l[j / 6] := List.getElem?_eq_getElem hi
  have := opL_get l (j / 6) _ (j % 6) ho (by omega)
  rw [show j / 6 * 6 + j % 6 = j by omega, hj] at this
  have hc := h _ _ ho _ _ this.symm
  have hadd : (⟨b, off, none⟩ : Addr).add j = ⟨b, off + j, none⟩ := by unfold Addr.add; split <;> simp_all
  rw [hadd, ← hc]; congr 2; omega
/-- a row of ops of one's own -/
theorem ops_of_row {w : World} {base n : Nat} {v : Value} {l : List Opx} (hr : w.ownsRow base 53 6 v l.length (opL l)) (ok : ∀ o ∈ l, o.ok) : OpsIn w v l := by
  rcases hr.2 with ⟨rfl, h⟩ | ⟨g, cap, cur, rfl, hg, hh, hn, _⟩
  · refine ⟨⟨none, 0, by rw [h], by omega, fun hp => by omega⟩, ok⟩
  · refine ⟨⟨_, cap, rfl, hn, fun hp => ⟨g, 0, rfl, fun i o ho j u hu => ?_⟩⟩, ok⟩
    have hj : j < 6 := by have := (List.getElem?_eq_some_iff.1 hu).1; simpa [opC] using this
    have := hr.cells (g := g) rfl (i * 6 + j) u (by rw [opL_get l i o j ho hj]; exact hu)
    rw [add_lit] at this
    rw [Nat.zero_add]; exact this
set_option maxRecDepth 100000 in
set_option maxHeartbeats 2000000 in
theorem ownOps_any {w : World} {v : Value} {l : List Opx} (A : OpsIn w v l) (hl : l.length ≤ 1000) :
    Calls Tryd.prog 7 #[v] w fun e w' => ∃ v', e = .returned v' ∧ OpsIn w' v' l ∧ Below w.heap.size w w' := by
  have A0 := A
  obtain ⟨ao, cap, rfl, hc, hh⟩ := A.sh
  have OK : Hid (∀ o ∈ l, o.ok) := A.ok
  obtain ⟨i0, hi, hz0, hz1, hz2⟩ := info_parts infoOp
  clear A
  cases ao with
  | none =>
    have hl0 : l = [] := by
      rcases Nat.eq_zero_or_pos l.length with h | h
      · exact List.length_eq_zero_iff.1 h
      · obtain ⟨b, off, e, _⟩ := hh h; cases e
    subst hl0
    clear hh A0
    go_enter Tryd.func7, Tryd.ntmps7
    go_wp2
    go_ret
    exact ⟨_, rfl, ⟨⟨none, 0, rfl, Nat.le_refl _, fun h => by cases h⟩, OK.out⟩, Below.refl _ _⟩
  | some ad =>
    have hnews : ∀ j u, (opL l)[j]? = some u → w.cell? (ad.add j) = some u := by
      rcases Nat.eq_zero_or_pos l.length with h | h
      · have : l = [] := List.length_eq_zero_iff.1 h
        subst this; intro j u hj; simp [opL] at hj
      · obtain ⟨b, off, e, hcl⟩ := hh h
        injection e with e; subst e
        exact opL_at hcl
    clear hh A0
    go_enter Tryd.func7, Tryd.ntmps7
    go_wp2_with (at_builtin; refine wpList_append_moved rfl _ _ 22 rfl w.heap.size 53 i0 (.agg #[.string ⟨#[]⟩, .int .i64 0, .int .i64 0, .int .i64 0, .int .u32 0, .int .i64 0]) 6 56 Tryd.underlying22 hi hz0 hz1 hz2 rfl (by decide) (.slice none 0 0) 0 [] rfl (World.ownsRow_nil _ _ _ _) ad l.length cap (opL l) rfl (opL_len l) hnews (opL_one l) (by unfold maxLen; omega) (by omega) (Nat.le_refl _) ?_; intro v' w3 ho hg hm)
    go_ret
    rw [Nat.zero_add, List.nil_append] at ho
    exact ⟨_, rfl, ops_of_row (n := 0) ho OK.out, ⟨hg.os, hg.tape, hg.output, hg.size, fun k hk => hg.block k hk (by intro e; cases e)⟩⟩
/-- a place's state, as a code at pc begins with it -/
def plS (S : St) (pc : Int) : St := { S with r := fun j => if j = 0 then 0 else S.r j, pc := pc, nx := lo (pc + 4), sl := false }
theorem plS_ok {S : St} (ok : S.ok) {pc : Int} (hp : u32 pc) : (plS S pc).ok :=
  ⟨fun j => by show u32 (if j = 0 then 0 else S.r j); split; exact ⟨by omega, by omega⟩; exact ok.r j, ok.hi, ok.lo, hp, lo_bd _, ok.st, ok.ca, ok.ep, ok.bd, ok.cm, ok.c0, ok.c1⟩
theorem st_row (w : World) (S : St) : StRow (w.alloc (.cells (stA S) 26)) w.heap.size S :=
  ⟨_, heap_alloc_new w _, stA_size S, fun j hj => stA_get S hj⟩
theorem row_st {w : World} {b : Nat} {S : St} (old : Array Value) (h : w.heap[b]? = some (.cells old 26 (0, 0))) : StRow (w.setRow b (stA S)) b S :=
  ⟨_, setRow_heap w b _ _ _ _ h, stA_size S, fun j hj => stA_get S hj⟩
theorem load_pl {w : World} {b : Nat} {S : St} {v : Value} {wc : Int} (R : RowIs w b 29 45 (plV S v wc)) : (loadVar 26 ⟨b, 0, none⟩).run Tryd.prog w = .ok (.agg (stA S)) w :=
  run_loadVar_mid w b 0 26 (stL S) _ (fun j u hu => by
    have hj : j < 43 := by have := (List.getElem?_eq_some_iff.1 hu).1; simpa [stL] using this
    have : (stL S)[j]? = some (stV S j) := by have := stA_get S hj; simpa [stA] using this
    rw [this] at hu
    rw [Nat.zero_add, R.cell (by omega)]
    unfold plV; rw [if_pos hj]; exact hu) Tryd.underlying26 rfl (by show _ = some 43; kernel_rfl)
theorem results_one_cell {fn : Func} {p : Tmp} {ty : TypeId} {A : Addr} {x : Value} (h : fn.results = #[.cell p ty]) (tmps : Array Value) (P : Program) (w : World) (hp : tmps.getD p undef = .pointer (some A)) (hl : (loadVar ty A).run P w = .ok x w) :
    (results fn tmps).run P w = .ok x w := by
  simp only [results, h]
  simp only [asAddr, hp, Sem.run_bind, List.mapM_toArray, List.mapM_cons, List.mapM_nil, Sem.run_map, Sem.run_pure, Result.andThen, hl]
  simp
set_option maxRecDepth 100000 in
set_option maxHeartbeats 4000000 in
theorem placed_any (w : World) (S : St) (v : Value) (wc : Int) (pc : Int) (p0 : 0 ≤ pc) (p1 : pc < 4294967296) :
    Calls Tryd.prog 8 #[.agg (plA S v wc), .int .u32 pc] w fun e w' => e = .returned (.agg (stA (plS S pc))) ∧ Below w.heap.size w w' := by
  have hrow := pl_row w S v wc
  have hB : Hid (Below w.heap.size w (w.alloc (.cells (plA S v wc) 29))) := (Below.refl _ _).alloc (Nat.le_refl _) _
  have hz : (w.alloc (.cells (plA S v wc) 29)).heap.size = w.heap.size + 1 := by simp
  generalize plA S v wc = PA at *
  go_enter Tryd.func8, Tryd.ntmps8
  have hload : (loadVar 26 ⟨w.heap.size, 0, none⟩).run Tryd.prog ((w.alloc (.cells PA 29)).alloc (.cells (stA zS) 26)) = .ok (.agg (stA S)) _ := load_pl (hrow.stays ((Below.refl _ _).alloc (Nat.le_refl _) _))
  have hz2 : ((w.alloc (.cells PA 29)).alloc (.cells (stA zS) 26)).heap.size = w.heap.size + 2 := by simp
  go_upto_region 2 with (first | (refine wpList_allocSt rfl rfl ?_) | (refine wpList_loadSt rfl _ rfl w.heap.size (stA S) rfl hload ?_) | (refine wpList_storeSt rfl _ _ rfl (stA zS) (stA S) rfl rfl (stA_size _) (stA_size _) (stA_one _) ?_))
  have r1 : StRow (((w.alloc (.cells PA 29)).alloc (.cells (stA zS) 26)).alloc (.cells (stA S) 26)) (w.heap.size + 1) zS := by
    have := st_row (w.alloc (.cells PA 29)) zS
    rw [hz] at this
    exact this.stays ((Below.refl _ _).alloc (Nat.le_refl _) _)
  have r2 : StRow (((w.alloc (.cells PA 29)).alloc (.cells (stA zS) 26)).alloc (.cells (stA S) 26)) (w.heap.size + 2) S := by
    have := st_row ((w.alloc (.cells PA 29)).alloc (.cells (stA zS) 26)) S
    rw [hz2] at this
    exact this
  have B2 : Hid (Below w.heap.size w (((w.alloc (.cells PA 29)).alloc (.cells (stA zS) 26)).alloc (.cells (stA S) 26))) := (hB.out.alloc (by omega) _).alloc (by omega) _
  generalize ((w.alloc (.cells PA 29)).alloc (.cells (stA zS) 26)).alloc (.cells (stA S) 26) = V at *
  have q0 := r2.at.reg (i := 0) (by omega)
  obtain ⟨_, _, q34, q35, q36, _⟩ := r2.at.told
  have f0 := r2.fz 0
  have f34 := r2.fz 34
  have f35 := r2.fz 35
  have f36 := r2.fz 36
  clear hload hrow
  go_upto_region 6 with fail
  have r3 : StRow ((((V.setCell ⟨w.heap.size + 2, 0, none⟩ (.int .u32 0)).setCell ⟨w.heap.size + 2, 34, none⟩ (.int .u32 pc)).setCell ⟨w.heap.size + 2, 35, none⟩ (.int .u32 ((pc + 4) % 4294967296))).setCell ⟨w.heap.size + 2, 36, none⟩ (.bool false)) (w.heap.size + 2) (plS S pc) := by
    have a1 := r2.put 0 (.int .u32 0) (stV { S with r := fun j => if j = 0 then 0 else S.r j }) rfl (fun j hj hn => by unfold stV; simp [hn])
    have a2 := a1.put 34 (.int .u32 pc) (stV { S with r := fun j => if j = 0 then 0 else S.r j, pc := pc }) rfl (fun j hj hn => by unfold stV; simp [hn])
    have a3 := a2.put 35 (.int .u32 ((pc + 4) % 4294967296)) (stV { S with r := fun j => if j = 0 then 0 else S.r j, pc := pc, nx := lo (pc + 4) }) rfl (fun j hj hn => by unfold stV; simp [hn])
    exact a3.put 36 (.bool false) (stV (plS S pc)) rfl (fun j hj hn => by unfold stV plS; simp [hn])
  have o3 : ∀ k, k ≠ w.heap.size + 2 → ((((V.setCell ⟨w.heap.size + 2, 0, none⟩ (.int .u32 0)).setCell ⟨w.heap.size + 2, 34, none⟩ (.int .u32 pc)).setCell ⟨w.heap.size + 2, 35, none⟩ (.int .u32 ((pc + 4) % 4294967296))).setCell ⟨w.heap.size + 2, 36, none⟩ (.bool false)).heap[k]? = V.heap[k]? := fun k hk => (((Below.heap_setCell _ ⟨w.heap.size + 2, 36, none⟩ _ k hk).trans (Below.heap_setCell _ ⟨w.heap.size + 2, 35, none⟩ _ k hk)).trans (Below.heap_setCell _ ⟨w.heap.size + 2, 34, none⟩ _ k hk)).trans (Below.heap_setCell _ ⟨w.heap.size + 2, 0, none⟩ _ k hk)
  have B3 : Hid (Below w.heap.size w ((((V.setCell ⟨w.heap.size + 2, 0, none⟩ (.int .u32 0)).setCell ⟨w.heap.size + 2, 34, none⟩ (.int .u32 pc)).setCell ⟨w.heap.size + 2, 35, none⟩ (.int .u32 ((pc + 4) % 4294967296))).setCell ⟨w.heap.size + 2, 36, none⟩ (.bool false))) := (((B2.out.setCell (p := ⟨w.heap.size + 2, 0, none⟩) (by show _ ≤ w.heap.size + 2; omega) _).setCell (p := ⟨w.heap.size + 2, 34, none⟩) (by show _ ≤ w.heap.size + 2; omega) _).setCell (p := ⟨w.heap.size + 2, 35, none⟩) (by show _ ≤ w.heap.size + 2; omega) _).setCell (p := ⟨w.heap.size + 2, 36, none⟩) (by show _ ≤ w.heap.size + 2; omega) _
  have r4 := r1.block (o3 (w.heap.size + 1) (by omega))
  generalize (((V.setCell ⟨w.heap.size + 2, 0, none⟩ (.int .u32 0)).setCell ⟨w.heap.size + 2, 34, none⟩ (.int .u32 pc)).setCell ⟨w.heap.size + 2, 35, none⟩ (.int .u32 ((pc + 4) % 4294967296))).setCell ⟨w.heap.size + 2, 36, none⟩ (.bool false) = U at *
  obtain ⟨old, o1, o2, _⟩ := r4
  have hl3 := load_st r3.at
  clear q0 q34 q35 q36 f0 f34 f35 f36 r1 r2 o3
  go_wp2_with (first | (refine wpList_loadSt rfl _ rfl (w.heap.size + 2) (stA (plS S pc)) rfl hl3 ?_) | (refine wpList_storeRow rfl _ _ rfl (w.heap.size + 1) old (stA (plS S pc)) rfl rfl o1 o2 (stA_size _) (stA_one _) ?_))
  have r5 : StRow (U.setRow (w.heap.size + 1) (stA (plS S pc))) (w.heap.size + 1) (plS S pc) := row_st old o1
  refine bodyPost_ret (results_one_cell (A := ⟨w.heap.size + 1, 0, none⟩) rfl _ _ _ rfl (load_st r5.at)) rfl ?_
  exact ⟨rfl, below_setRow B3.out (by omega) _⟩
end Go.Proofs.YtjjlbpenagobiaaDoor
