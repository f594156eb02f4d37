/-
  A slice of ops that came in.
-/
import Derived.Deep.Slices
import Derived.Deep.MidRow
import Derived.Laws.CopyOwn
import Derived.Test.YtkehhlibkebomaaDoorQIrChk
import Derived.Test.YtkehhlibkebomaaDoorQEqSt0
import Derived.Test.YtkehhlibkebomaaDoorKDoc5a
import Derived.Test.YtkehhlibkebomaaDoorKPartsWalk
namespace Go.Proofs.YtkehhlibkebomaaDoor
open Go.ChangeShapes Go.WideShapes Go.ChangeAt Go.RowKit
set_option linter.unusedVariables false
theorem cOp6 : Tryd.prog.cellsOf 53 = 6 := by kernel_rfl
theorem cI3 : Tryd.prog.cellsOf 3 = 1 := by kernel_rfl
theorem cS9 : Tryd.prog.cellsOf 9 = 1 := by kernel_rfl
theorem cU23 : Tryd.prog.cellsOf 23 = 1 := by kernel_rfl
set_option maxRecDepth 100000 in
theorem ops_of {H : Type} {enc : TypeId × Value → H} {W : World} {base : Nat} {v : Value} {d : DataW H} {p : List MemPlace} (hv : Value.okWide Tryd.prog W .any base 22 v) (h : DataW.Trod enc Tryd.prog W 0 (fun _ => true) true 22 v d p) :
    ∃ l : List Opx, OpsIn W v l ∧ (l.length : Int) ≤ 9223372036854775807 ∧ ∀ o ∈ l, (o.s.size : Int) ≤ 9223372036854775807 := by
  obtain ⟨a0, len, cap, rfl⟩ := okWide_slice Tryd.underlying22 hv
  obtain ⟨fuel, hf⟩ := h
  rcases Go.Deep.open_slice Tryd.underlying22 hf with ⟨hcs, hx⟩ | ⟨a, len', cap', m, n, D, Pl, hcs, _, hl, hm, hmm, _, hx⟩
  · simp [Value.cells] at hcs
    obtain ⟨rfl, rfl, rfl⟩ := hcs
    exact ⟨[], ⟨⟨none, 0, rfl, Nat.le_refl _, fun h => absurd h (by simp)⟩, fun o ho => by cases ho⟩, by simp, fun o ho => by cases ho⟩
  · simp [Value.cells] at hcs
    obtain ⟨rfl, rfl, rfl⟩ := hcs
    simp only [if_true] at hmm
    subst hmm
    have each : ∀ i, ∃ x : Opx, i < len → (x.ok ∧ (x.s.size : Int) ≤ 9223372036854775807) ∧ ∀ (j : Nat) (u : Value), (opC x)[j]? = some u → W.cell? ((a.add (i * 6)).add j) = some u := by
      intro i
      by_cases hi : i < len
      · obtain ⟨cs', h1, h2⟩ := hx i (by omega)
        rw [cOp6] at h1
        obtain ⟨_, hlen, hcell⟩ := World.cells?_some h1
        obtain ⟨xs, k, hk, hxy, _, hxl, hg⟩ := DataW.trod_struct Tryd.underlying53 h2
        match xs, hxl, cs', hlen with
        | [y0, y1, y2, y3, y4, y5], _, [c0, c1, c2, c3, c4, c5], _ =>
          have g0 := hg 0 _ rfl
          have g1 := hg 1 _ rfl
          have g2 := hg 2 _ rfl
          have g3 := hg 3 _ rfl
          have g4 := hg 4 _ rfl
          have g5 := hg 5 _ rfl
          simp [cI3, cS9, cU23] at g0 g1 g2 g3 g4 g5
          obtain ⟨s0, e0, rfl, w0⟩ := DataW.trod_string Tryd.underlying9 g0
          obtain ⟨a1, e1, rfl, w1⟩ := DataW.trod_int Tryd.underlying3 g1
          obtain ⟨a2, e2, rfl, w2⟩ := DataW.trod_int Tryd.underlying3 g2
          obtain ⟨a3, e3, rfl, w3⟩ := DataW.trod_int Tryd.underlying3 g3
          obtain ⟨a4, e4, rfl, w4⟩ := DataW.trod_int Tryd.underlying23 g4
          obtain ⟨a5, e5, rfl, w5⟩ := DataW.trod_int Tryd.underlying3 g5
          simp at e0 e1 e2 e3 e4 e5
          subst e0 e1 e2 e3 e4 e5
          refine ⟨⟨s0, a1, a2, a3, a4, a5⟩, fun _ => ⟨⟨⟨(bd_i64 w1).1, (bd_i64 w1).2, (bd_i64 w2).1, (bd_i64 w2).2, (bd_i64 w3).1, (bd_i64 w3).2, (bd_u32 w4).1, (bd_u32 w4).2, (bd_i64 w5).1, (bd_i64 w5).2⟩, by unfold maxLen at w0; show (s0.size : Int) ≤ _; omega⟩, fun j u hj => ?_⟩⟩
          have hj6 : j < 6 := by
            rcases Nat.lt_or_ge j 6 with h | h
            · exact h
            · rw [List.getElem?_eq_none (by simpa [opC] using h)] at hj; cases hj
          rw [hcell j hj6]
          exact hj
      · exact ⟨⟨ByteArray.empty, 0, 0, 0, 0, 0⟩, fun h => absurd h hi⟩
    have hch := Classical.axiomOfChoice each
    obtain ⟨x, hxx⟩ := hch
    have hll : ((List.range len).map x).length = len := by simp
    have hget : ∀ (i : Nat) (o : Opx), ((List.range len).map x)[i]? = some o → i < len ∧ o = x i := by
      intro i o ho
      have hi : i < len := by have := (List.getElem?_eq_some_iff.1 ho).1; simpa using this
      rw [List.getElem?_map, List.getElem?_range hi] at ho
      exact ⟨hi, (Option.some.inj ho).symm⟩
    refine ⟨(List.range len).map x, ⟨⟨some a, _, by rw [hll], by rw [hll]; exact hl, fun hp => ?_⟩, fun o ho => ?_⟩, by rw [hll]; unfold maxLen at hm; omega, fun o ho => ?_⟩
    · obtain ⟨b, off, spot⟩ := a
      have hp' : 0 < len := by omega
      have hspot : spot = none := by
        have := (hxx 0 hp').2 0 _ rfl
        simpa [Addr.add] using World.cell?_spot this
      subst hspot
      refine ⟨b, off, rfl, fun i o ho j u hj => ?_⟩
      obtain ⟨hi, rfl⟩ := hget i o ho
      have := (hxx i hi).2 j u hj
      rwa [add_plain, add_plain] at this
    · obtain ⟨i, hi, rfl⟩ := List.mem_map.1 ho
      exact (hxx i (List.mem_range.1 hi)).1.1
    · obtain ⟨i, hi, rfl⟩ := List.mem_map.1 ho
      exact (hxx i (List.mem_range.1 hi)).1.2
end Go.Proofs.YtkehhlibkebomaaDoor
/-
  placed.
-/
namespace Go.Proofs.YtkehhlibkebomaaDoor
open Go.RowKit Go.Maps
open Num
set_option linter.unusedVariables false
/-- what the cells of a place hold -/
def plV (S : St) (v : Value) (wc : Int) (j : Nat) : Value := if j < 43 then stV S j else if j = 43 then v else .int .i64 wc
def plA (S : St) (v : Value) (wc : Int) : Array Value := ((List.range 45).map (plV S v wc)).toArray
theorem plA_size (S : St) (v : Value) (wc : Int) : (plA S v wc).size = 45 := by simp [plA]
theorem plA_get (S : St) (v : Value) (wc : Int) (j : Nat) (h : j < 45) : (plA S v wc)[j]? = some (plV S v wc j) := by
  unfold plA; rw [List.getElem?_toArray, List.getElem?_map, List.getElem?_range h]; rfl
theorem pl_row (w : World) (S : St) (v : Value) (wc : Int) : RowIs (w.alloc (.cells (plA S v wc) 29)) w.heap.size 29 45 (plV S v wc) :=
  ⟨_, heap_alloc_new w _, plA_size _ _ _, fun j hj => plA_get _ _ _ j hj⟩
def plS (S : St) (pc : Int) : St := { S with r := fun j => if j = 0 then 0 else S.r j, pc := pc, nx := lo (pc + 4), sl := false }
theorem plS_ok {S : St} (ok : S.ok) {pc : Int} (hp : u32 pc) : (plS S pc).ok :=
  ⟨fun j => by show u32 (if j = 0 then 0 else S.r j); split; exact ⟨by omega, by omega⟩; exact ok.r j, ok.hi, ok.lo, hp, lo_bd _, ok.st, ok.ca, ok.ep, ok.bd, ok.cm, ok.c0, ok.c1⟩
theorem st_row (w : World) (S : St) : StRow (w.alloc (.cells (stA S) 26)) w.heap.size S :=
  ⟨_, heap_alloc_new w _, stA_size S, fun j hj => stA_get S hj⟩
theorem row_st {w : World} {b : Nat} {S : St} (old : Array Value) (h : w.heap[b]? = some (.cells old 26 (0, 0))) : StRow (w.setRow b (stA S)) b S :=
  ⟨_, setRow_heap w b _ _ _ _ h, stA_size S, fun j hj => stA_get S hj⟩
theorem load_pl {w : World} {b : Nat} {S : St} {v : Value} {wc : Int} (R : RowIs w b 29 45 (plV S v wc)) : (loadVar 26 ⟨b, 0, none⟩).run Tryd.prog w = .ok (.agg (stA S)) w :=
  run_loadVar_mid w b 0 26 (stL S) _ (fun j u hu => by
    have hj : j < 43 := by have := (List.getElem?_eq_some_iff.1 hu).1; simpa [stL] using this
    have : (stL S)[j]? = some (stV S j) := by have := stA_get S hj; simpa [stA] using this
    rw [this] at hu
    rw [Nat.zero_add, R.cell (by omega)]
    unfold plV; rw [if_pos hj]; exact hu) Tryd.underlying26 rfl (by show _ = some 43; kernel_rfl)
set_option maxRecDepth 100000 in
set_option maxHeartbeats 4000000 in
theorem placed_any (w : World) (S : St) (v : Value) (wc : Int) (pc : Int) (p0 : 0 ≤ pc) (p1 : pc < 4294967296) :
    Calls Tryd.prog 8 #[.agg (plA S v wc), .int .u32 pc] w fun e w' => e = .returned (.agg (stA (plS S pc))) ∧ Below w.heap.size w w' := by
  have hrow := pl_row w S v wc
  have hB : Hid (Below w.heap.size w (w.alloc (.cells (plA S v wc) 29))) := (Below.refl _ _).alloc (Nat.le_refl _) _
  have hz : (w.alloc (.cells (plA S v wc) 29)).heap.size = w.heap.size + 1 := by simp
  generalize plA S v wc = PA at *
  go_enter Tryd.func8, Tryd.ntmps8
  have hload : (loadVar 26 ⟨w.heap.size, 0, none⟩).run Tryd.prog ((w.alloc (.cells PA 29)).alloc (.cells (stA zS) 26)) = .ok (.agg (stA S)) _ := load_pl (hrow.stays ((Below.refl _ _).alloc (Nat.le_refl _) _))
  have hz2 : ((w.alloc (.cells PA 29)).alloc (.cells (stA zS) 26)).heap.size = w.heap.size + 2 := by simp
  go_upto_region 2 with (first | (refine wpList_allocSt rfl rfl ?_) | (refine wpList_loadSt rfl _ rfl w.heap.size (stA S) rfl hload ?_) | (refine wpList_storeSt rfl _ _ rfl (stA zS) (stA S) rfl rfl (stA_size _) (stA_size _) (stA_one _) ?_))
  have r1 : StRow (((w.alloc (.cells PA 29)).alloc (.cells (stA zS) 26)).alloc (.cells (stA S) 26)) (w.heap.size + 1) zS := by
    have := st_row (w.alloc (.cells PA 29)) zS
    rw [hz] at this
    exact this.stays ((Below.refl _ _).alloc (Nat.le_refl _) _)
  have r2 : StRow (((w.alloc (.cells PA 29)).alloc (.cells (stA zS) 26)).alloc (.cells (stA S) 26)) (w.heap.size + 2) S := by
    have := st_row ((w.alloc (.cells PA 29)).alloc (.cells (stA zS) 26)) S
    rw [hz2] at this
    exact this
  have B2 : Hid (Below w.heap.size w (((w.alloc (.cells PA 29)).alloc (.cells (stA zS) 26)).alloc (.cells (stA S) 26))) := (hB.out.alloc (by omega) _).alloc (by omega) _
  generalize ((w.alloc (.cells PA 29)).alloc (.cells (stA zS) 26)).alloc (.cells (stA S) 26) = V at *
  have q0 := r2.at.reg (i := 0) (by omega)
  obtain ⟨_, _, q34, q35, q36, _⟩ := r2.at.told
  have f0 := r2.fz 0
  have f34 := r2.fz 34
  have f35 := r2.fz 35
  have f36 := r2.fz 36
  clear hload hrow
  go_upto_region 6 with fail
  have r3 : StRow ((((V.setCell ⟨w.heap.size + 2, 0, none⟩ (.int .u32 0)).setCell ⟨w.heap.size + 2, 34, none⟩ (.int .u32 pc)).setCell ⟨w.heap.size + 2, 35, none⟩ (.int .u32 ((pc + 4) % 4294967296))).setCell ⟨w.heap.size + 2, 36, none⟩ (.bool false)) (w.heap.size + 2) (plS S pc) := by
    have a1 := r2.put 0 (.int .u32 0) (stV { S with r := fun j => if j = 0 then 0 else S.r j }) rfl (fun j hj hn => by unfold stV; simp [hn])
    have a2 := a1.put 34 (.int .u32 pc) (stV { S with r := fun j => if j = 0 then 0 else S.r j, pc := pc }) rfl (fun j hj hn => by unfold stV; simp [hn])
    have a3 := a2.put 35 (.int .u32 ((pc + 4) % 4294967296)) (stV { S with r := fun j => if j = 0 then 0 else S.r j, pc := pc, nx := lo (pc + 4) }) rfl (fun j hj hn => by unfold stV; simp [hn])
    exact a3.put 36 (.bool false) (stV (plS S pc)) rfl (fun j hj hn => by unfold stV plS; simp [hn])
  have o3 : ∀ k, k ≠ w.heap.size + 2 → ((((V.setCell ⟨w.heap.size + 2, 0, none⟩ (.int .u32 0)).setCell ⟨w.heap.size + 2, 34, none⟩ (.int .u32 pc)).setCell ⟨w.heap.size + 2, 35, none⟩ (.int .u32 ((pc + 4) % 4294967296))).setCell ⟨w.heap.size + 2, 36, none⟩ (.bool false)).heap[k]? = V.heap[k]? := fun k hk => (((Below.heap_setCell _ ⟨w.heap.size + 2, 36, none⟩ _ k hk).trans (Below.heap_setCell _ ⟨w.heap.size + 2, 35, none⟩ _ k hk)).trans (Below.heap_setCell _ ⟨w.heap.size + 2, 34, none⟩ _ k hk)).trans (Below.heap_setCell _ ⟨w.heap.size + 2, 0, none⟩ _ k hk)
  have B3 : Hid (Below w.heap.size w ((((V.setCell ⟨w.heap.size + 2, 0, none⟩ (.int .u32 0)).setCell ⟨w.heap.size + 2, 34, none⟩ (.int .u32 pc)).setCell ⟨w.heap.size + 2, 35, none⟩ (.int .u32 ((pc + 4) % 4294967296))).setCell ⟨w.heap.size + 2, 36, none⟩ (.bool false))) := (((B2.out.setCell (p := ⟨w.heap.size + 2, 0, none⟩) (by show _ ≤ w.heap.size + 2; omega) _).setCell (p := ⟨w.heap.size + 2, 34, none⟩) (by show _ ≤ w.heap.size + 2; omega) _).setCell (p := ⟨w.heap.size + 2, 35, none⟩) (by show _ ≤ w.heap.size + 2; omega) _).setCell (p := ⟨w.heap.size + 2, 36, none⟩) (by show _ ≤ w.heap.size + 2; omega) _
  have r4 := r1.block (o3 (w.heap.size + 1) (by omega))
  generalize (((V.setCell ⟨w.heap.size + 2, 0, none⟩ (.int .u32 0)).setCell ⟨w.heap.size + 2, 34, none⟩ (.int .u32 pc)).setCell ⟨w.heap.size + 2, 35, none⟩ (.int .u32 ((pc + 4) % 4294967296))).setCell ⟨w.heap.size + 2, 36, none⟩ (.bool false) = U at *
  obtain ⟨old, o1, o2, _⟩ := r4
  have hl3 := load_st r3.at
  clear q0 q34 q35 q36 f0 f34 f35 f36 r1 r2 o3
  go_wp2_with (first | (refine wpList_loadSt rfl _ rfl (w.heap.size + 2) (stA (plS S pc)) rfl hl3 ?_) | (refine wpList_storeRow rfl _ _ rfl (w.heap.size + 1) old (stA (plS S pc)) rfl rfl o1 o2 (stA_size _) (stA_one _) ?_))
  have r5 : StRow (U.setRow (w.heap.size + 1) (stA (plS S pc))) (w.heap.size + 1) (plS S pc) := row_st old o1
  refine bodyPost_ret (results_one_cell (A := ⟨w.heap.size + 1, 0, none⟩) rfl _ _ _ rfl (load_st r5.at)) rfl ?_
  exact ⟨rfl, below_setRow B3.out (by omega) _⟩
end Go.Proofs.YtkehhlibkebomaaDoor
/-
  A place that came in.
-/
namespace Go.Proofs.YtkehhlibkebomaaDoor
open Go.ChangeShapes Go.WideShapes Go.ChangeAt Go.RowKit
set_option linter.unusedVariables false
theorem c30 : Tryd.prog.cellsOf 24 = 32 := by kernel_rfl
theorem c23' : Tryd.prog.cellsOf 23 = 1 := by kernel_rfl
theorem take_one {l : List Value} {k : Nat} {x : Value} (h : (l.drop k).take 1 = [x]) : l[k]? = some x := by
  have h2 : ((l.drop k).take 1)[0]? = some x := by rw [h]; rfl
  rw [List.getElem?_take_of_lt (by omega), List.getElem?_drop] at h2
  simpa using h2
def iv (v : Option Value) : Int := match v with | some (.int _ n) => n | _ => 0
def bv (v : Option Value) : Bool := match v with | some (.bool x) => x | _ => false
def stOf (cs : Array Value) : St := ⟨fun i => if i < 32 then iv cs[i]? else 0, iv cs[32]?, iv cs[33]?, iv cs[34]?, iv cs[35]?, bv cs[36]?, iv cs[37]?, iv cs[38]?, iv cs[39]?, iv cs[40]?, iv cs[41]?, iv cs[42]?⟩
set_option maxRecDepth 100000 in
theorem open_st {H : Type} {enc : TypeId × Value → H} {W : World} {base : Nat} {sp : Nat → Bool} {held : Bool} {fuel : Nat} {cs : Array Value} {y : DataW H × List MemPlace} (hsz : cs.size = 43) (hf : DataW.trod enc Tryd.prog W base sp held fuel 26 cs.toList = some y) :
    ∃ S : St, cs = stA S ∧ (0 ≤ S.ct → S.ct ≤ 1099511627776 → S.ok) ∧ -9223372036854775808 ≤ S.ct ∧ S.ct ≤ 9223372036854775807 := by
  obtain ⟨xs, n, _, hx, hl, hlen, hg⟩ := DataW.trod_struct Tryd.underlying26 hf
  have hget : ∀ i (hi : i < 12), ∃ y, xs[i]? = some y := fun i hi => by
    have : i < xs.length := by rw [hlen]; exact hi
    exact ⟨_, List.getElem?_eq_getElem this⟩
  have word : ∀ (i o : Nat), (∃ y, DataW.trod enc Tryd.prog W base sp held n 23 ((cs.toList.drop o).take 1) = some y) → ∃ z : Int, cs[o]? = some (.int .u32 z) ∧ u32 z := by
    intro i o ⟨y, hy⟩
    obtain ⟨z, e, _, w⟩ := DataW.trod_int Tryd.underlying23 hy
    have := take_one e
    rw [Array.getElem?_toList] at this
    exact ⟨z, this, bd_u32 w⟩
  have hr : ∀ i, i < 32 → ∃ z : Int, cs[i]? = some (.int .u32 z) ∧ u32 z := by
    obtain ⟨y, hy⟩ := hget 0 (by omega)
    have g := hg 0 _ rfl
    rw [hy] at g
    obtain ⟨ys, m, _, _, _, hl2, hg2⟩ := DataW.trod_array Tryd.underlying24 g
    intro i hi
    have g2 := hg2 i hi
    have : i < ys.length := by rw [hl2]; exact hi
    rw [List.getElem?_eq_getElem this, c23', Nat.mul_one] at g2
    obtain ⟨z, e, _, w⟩ := DataW.trod_int Tryd.underlying23 g2
    have h1 := take_one e
    rw [List.getElem?_take_of_lt (by show i < Tryd.prog.cellsOf 24; rw [c30]; exact hi)] at h1
    rw [List.getElem?_drop] at h1
    exact ⟨z, by simpa using h1, bd_u32 w⟩
  obtain ⟨z32, e32, b32⟩ : ∃ z : Int, cs[32]? = some (.int .u32 z) ∧ u32 z := by
    obtain ⟨y, hy⟩ := hget 1 (by omega)
    exact word 1 32 ⟨y, by have g := hg 1 _ rfl; rw [hy] at g; exact g⟩
  obtain ⟨z33, e33, b33⟩ : ∃ z : Int, cs[33]? = some (.int .u32 z) ∧ u32 z := by
    obtain ⟨y, hy⟩ := hget 2 (by omega)
    exact word 2 33 ⟨y, by have g := hg 2 _ rfl; rw [hy] at g; exact g⟩
  obtain ⟨z34, e34, b34⟩ : ∃ z : Int, cs[34]? = some (.int .u32 z) ∧ u32 z := by
    obtain ⟨y, hy⟩ := hget 3 (by omega)
    exact word 3 34 ⟨y, by have g := hg 3 _ rfl; rw [hy] at g; exact g⟩
  obtain ⟨z35, e35, b35⟩ : ∃ z : Int, cs[35]? = some (.int .u32 z) ∧ u32 z := by
    obtain ⟨y, hy⟩ := hget 4 (by omega)
    exact word 4 35 ⟨y, by have g := hg 4 _ rfl; rw [hy] at g; exact g⟩
  obtain ⟨z36, e36⟩ : ∃ z : Bool, cs[36]? = some (.bool z) := by
    obtain ⟨y, hy⟩ := hget 5 (by omega)
    have g := hg 5 _ rfl
    rw [hy] at g
    obtain ⟨z, e, _⟩ := DataW.trod_bool Tryd.underlying4 g
    have := take_one (l := cs.toList) (k := 36) e
    rw [Array.getElem?_toList] at this
    exact ⟨z, this⟩
  obtain ⟨z37, e37, b37⟩ : ∃ z : Int, cs[37]? = some (.int .u32 z) ∧ u32 z := by
    obtain ⟨y, hy⟩ := hget 6 (by omega)
    exact word 6 37 ⟨y, by have g := hg 6 _ rfl; rw [hy] at g; exact g⟩
  obtain ⟨z38, e38, b38⟩ : ∃ z : Int, cs[38]? = some (.int .u32 z) ∧ u32 z := by
    obtain ⟨y, hy⟩ := hget 7 (by omega)
    exact word 7 38 ⟨y, by have g := hg 7 _ rfl; rw [hy] at g; exact g⟩
  obtain ⟨z39, e39, b39⟩ : ∃ z : Int, cs[39]? = some (.int .u32 z) ∧ u32 z := by
    obtain ⟨y, hy⟩ := hget 8 (by omega)
    exact word 8 39 ⟨y, by have g := hg 8 _ rfl; rw [hy] at g; exact g⟩
  obtain ⟨z40, e40, b40⟩ : ∃ z : Int, cs[40]? = some (.int .u32 z) ∧ u32 z := by
    obtain ⟨y, hy⟩ := hget 9 (by omega)
    exact word 9 40 ⟨y, by have g := hg 9 _ rfl; rw [hy] at g; exact g⟩
  obtain ⟨z41, e41, b41⟩ : ∃ z : Int, cs[41]? = some (.int .u32 z) ∧ u32 z := by
    obtain ⟨y, hy⟩ := hget 10 (by omega)
    exact word 10 41 ⟨y, by have g := hg 10 _ rfl; rw [hy] at g; exact g⟩
  obtain ⟨z42, e42, b42⟩ : ∃ z : Int, cs[42]? = some (.int .i64 z) ∧ (-9223372036854775808 ≤ z ∧ z ≤ 9223372036854775807) := by
    obtain ⟨y, hy⟩ := hget 11 (by omega)
    have g := hg 11 _ rfl
    rw [hy] at g
    obtain ⟨z, e, _, w⟩ := DataW.trod_int Tryd.underlying3 g
    have := take_one (l := cs.toList) (k := 42) e
    rw [Array.getElem?_toList] at this
    exact ⟨z, this, bd_i64 w⟩
  refine ⟨stOf cs, ?_, fun h0 h1 => ?_, ?_, ?_⟩
  · apply Array.ext_getElem?
    intro j
    by_cases hj : j < 43
    · rw [stA_get _ hj]
      unfold stV
      by_cases h32 : j < 32
      · rw [if_pos h32]
        obtain ⟨z, e, _⟩ := hr j h32
        show cs[j]? = some (Value.int .u32 (if j < 32 then iv cs[j]? else 0))
        rw [if_pos h32, e]; rfl
      · rw [if_neg h32]
        have hj' : j = 32 ∨ j = 33 ∨ j = 34 ∨ j = 35 ∨ j = 36 ∨ j = 37 ∨ j = 38 ∨ j = 39 ∨ j = 40 ∨ j = 41 ∨ j = 42 := by omega
        rcases hj' with rfl | rfl | rfl | rfl | rfl | rfl | rfl | rfl | rfl | rfl | rfl <;> simp [stOf, e32, e33, e34, e35, e36, e37, e38, e39, e40, e41, e42, iv, bv]
    · rw [Array.getElem?_eq_none (by omega), Array.getElem?_eq_none (by rw [show (stA (stOf cs)).size = 43 by simp [stA, stL]]; omega)]
  · have h0' : 0 ≤ z42 := by simpa [stOf, e42, iv] using h0
    have h1' : z42 ≤ 1099511627776 := by simpa [stOf, e42, iv] using h1
    refine ⟨fun i => ?_, ?_, ?_, ?_, ?_, ?_, ?_, ?_, ?_, ?_, ?_, ?_⟩
    · show u32 (if i < 32 then iv cs[i]? else 0)
      split
      · rename_i hi
        obtain ⟨z, e, b⟩ := hr i hi
        rw [e]; exact b
      · exact ⟨by omega, by omega⟩
    · show u32 (iv cs[32]?); rw [e32]; exact b32
    · show u32 (iv cs[33]?); rw [e33]; exact b33
    · show u32 (iv cs[34]?); rw [e34]; exact b34
    · show u32 (iv cs[35]?); rw [e35]; exact b35
    · show u32 (iv cs[37]?); rw [e37]; exact b37
    · show u32 (iv cs[38]?); rw [e38]; exact b38
    · show u32 (iv cs[39]?); rw [e39]; exact b39
    · show u32 (iv cs[40]?); rw [e40]; exact b40
    · show u32 (iv cs[41]?); rw [e41]; exact b41
    · show _ ≤ iv cs[42]?; rw [e42]; show _ ≤ z42; omega
    · show iv cs[42]? < _; rw [e42]; show z42 < _; omega
  · show _ ≤ iv cs[42]?; rw [e42]; exact b42.1
  · show iv cs[42]? ≤ _; rw [e42]; exact b42.2
set_option maxRecDepth 100000 in
/-- the cell of a slice of words that came in -/
theorem words_raw {H : Type} {enc : TypeId × Value → H} {W : World} {fuel : Nat} {L : List Value} {y : DataW H × List MemPlace} (hf : DataW.trod enc Tryd.prog W 0 (fun _ => true) true fuel 27 L = some y) :
    ∃ (v : Value) (xs : List Int), L = [v] ∧ WordsIn W v xs ∧ (xs.length : Int) ≤ 9223372036854775807 := by
  rcases open_ints Tryd.underlying27 Tryd.underlying23 c23' hf with ⟨hcs, hx⟩ | ⟨a, len, cap, zs, hcs, _, hl, hm, hz, hx, hcell, hwz⟩
  · exact ⟨.slice none 0 0, [], hcs, ⟨⟨none, 0, rfl, Nat.le_refl _, fun h => absurd h (by simp)⟩, mw_wf [] (by simp)⟩, by simp⟩
  · simp only [if_true] at hz
    have hlen : (zs.take len).length = len := by simp; omega
    refine ⟨.slice (some a) len cap, zs.take len, hcs, ⟨⟨some a, cap, by rw [hlen], by omega, fun hp => ?_⟩, mw_wf _ (fun x hx => bd_u32 (hwz x (List.mem_of_mem_take hx)))⟩, ?_⟩
    · obtain ⟨b, off, spot⟩ := a
      have hspot : spot = none := by simpa [Addr.add] using World.cell?_spot (hcell 0 (by omega))
      subst hspot
      refine ⟨b, off, rfl, fun i hi => ?_⟩
      have := hcell i (by omega)
      rw [add_plain] at this
      rw [this, List.getD_eq_getElem?_getD, List.getD_eq_getElem?_getD, List.getElem?_take_of_lt (by omega)]
    · unfold maxLen at hm; omega
theorem c29' : Tryd.prog.cellsOf 29 = 45 := by kernel_rfl
set_option maxRecDepth 100000 in
theorem open_place {H : Type} {enc : TypeId × Value → H} {W : World} {r : Reach} {b0 : Nat} {v : Value} {d : DataW H} {p : List MemPlace} (hv : Value.okWide Tryd.prog W r b0 29 v) (h : DataW.Trod enc Tryd.prog W 0 (fun _ => true) true 29 v d p) :
    ∃ (S : St) (vx : Value) (xs : List Int) (wc : Int), v = .agg (plA S vx wc) ∧ (0 ≤ S.ct → S.ct ≤ 1099511627776 → S.ok) ∧ WordsIn W vx xs := by
  obtain ⟨cs, rfl, hsz⟩ := okWide_struct Tryd.underlying29 hv
  rw [c29'] at hsz
  obtain ⟨fuel, hf⟩ := h
  obtain ⟨ys, n, _, hx, hl, hlen, hg⟩ := DataW.trod_struct Tryd.underlying29 hf
  have hget : ∀ i (hi : i < 3), ∃ y, ys[i]? = some y := fun i hi => by
    have : i < ys.length := by rw [hlen]; exact hi
    exact ⟨_, List.getElem?_eq_getElem this⟩
  obtain ⟨y0, q0⟩ := hget 0 (by omega)
  obtain ⟨y1, q1⟩ := hget 1 (by omega)
  obtain ⟨y2, q2⟩ := hget 2 (by omega)
  have g0 : DataW.trod enc Tryd.prog W 0 (fun _ => true) true n 26 ((cs.toList.drop 0).take 43) = some y0 := by have g := hg 0 _ rfl; rw [q0] at g; exact g
  have g1 : DataW.trod enc Tryd.prog W 0 (fun _ => true) true n 27 ((cs.toList.drop 43).take 1) = some y1 := by have g := hg 1 _ rfl; rw [q1] at g; exact g
  have g2 : DataW.trod enc Tryd.prog W 0 (fun _ => true) true n 3 ((cs.toList.drop 44).take 1) = some y2 := by have g := hg 2 _ rfl; rw [q2] at g; exact g
  have hc : (cs.toList.take 43).toArray.size = 43 := by simp; omega
  obtain ⟨S, eS, hok, _, _⟩ := open_st hc (by rw [List.toList_toArray]; exact g0)
  obtain ⟨vx, xs, ex, X, _⟩ := words_raw g1
  obtain ⟨wc, ew, _, _⟩ := DataW.trod_int Tryd.underlying3 g2
  have k43 := take_one ex
  have k44 := take_one ew
  refine ⟨S, vx, xs, wc, ?_, hok, X⟩
  congr 1
  apply Array.ext_getElem?
  intro j
  by_cases hj : j < 45
  · rw [plA_get _ _ _ _ hj]
    unfold plV
    by_cases h43 : j < 43
    · rw [if_pos h43, ← stA_get S h43, ← eS]
      simp [h43]
    · rw [if_neg h43]
      by_cases e : j = 43
      · subst e; rw [if_pos rfl, ← Array.getElem?_toList]; exact k43
      · obtain rfl : j = 44 := by omega
        rw [if_neg (by decide), ← Array.getElem?_toList]; exact k44
  · rw [Array.getElem?_eq_none (by omega), Array.getElem?_eq_none (by rw [plA_size]; omega)]
end Go.Proofs.YtkehhlibkebomaaDoor
