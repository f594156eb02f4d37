/-
  Package ir: all ops, to the first one that leaves or traps.
-/
import Derived.Test.YtjjlbpenagobiaaDoorIrSt
import Derived.Test.YtjjlbpenagobiaaDoorIrChk3
namespace Go.Proofs.YtjjlbpenagobiaaDoor
open Go.RowKit Go.Maps
open Num
set_option linter.unusedVariables false
/-- what is handed back, where the second is a cell's -/
theorem results_tmp_cell {fn : Func} {p u : Tmp} {ty : TypeId} {A : Addr} {x : Value} (h : fn.results = #[.tmp u, .cell p ty]) (tmps : Array Value) (P : Program) (w : World) (hp : tmps.getD p undef = .pointer (some A)) (hl : (loadVar ty A).run P w = .ok x w) :
    (results fn tmps).run P w = .ok (.tuple #[tmps.getD u undef, x]) w := by
  simp only [results, h]
  simp only [asAddr, hp, Sem.run_bind, List.mapM_toArray, List.mapM_cons, List.mapM_nil, Sem.run_map, Sem.run_pure, Result.andThen, hl]
  simp
theorem end_load {w : World} {B : Nat} {b : Bool} {t : Int} (z0 : w.cell? ⟨B, 0, none⟩ = some (.bool b)) (z1 : w.cell? ⟨B, 1, none⟩ = some (.int .i64 t)) : (loadVar 40 ⟨B, 0, none⟩).run Tryd.prog w = .ok (.agg #[.bool b, .int .i64 t]) w := by
  simp [go_sem, z0, z1]
theorem put2 {w : World} {B : Nat} {u0 u1 v0 v1 : Value} (z0 : w.cell? ⟨B, 0, none⟩ = some u0) (z1 : w.cell? ⟨B, 1, none⟩ = some u1) : ((w.setCell ⟨B, 0, none⟩ v0).setCell ⟨B, 1, none⟩ v1).cell? ⟨B, 0, none⟩ = some v0 ∧ ((w.setCell ⟨B, 0, none⟩ v0).setCell ⟨B, 1, none⟩ v1).cell? ⟨B, 1, none⟩ = some v1 := by
  constructor
  · rw [World.cell?_setCell_other _ _ _ _ (by intro e; injection e with e1 e2; cases e2)]; exact World.cell?_setCell_same _ _ _ z0
  · exact World.cell?_setCell_same _ _ _ (by rw [World.cell?_setCell_other _ _ _ _ (by intro e; injection e with e1 e2; cases e2)]; exact z1)
/-- the errors' variables lie below -/
def EgB (base : Nat) : Prop := 2 < base ∧ 0 < base ∧ 4 < base ∧ 3 < base ∧ 1 < base ∧ 5 < base
theorem Eg.onBase {pe : Nat → Addr} {w w' : World} {base : Nat} (E : Eg pe w) (h : EgB base) (hb : Below base w w') : Eg pe w' := by
  obtain ⟨h2, h3, h4, h8, h9, h10⟩ := h
  exact ⟨(hb.cell (p := ⟨2, 0, none⟩) h2).trans E.e2, (hb.cell (p := ⟨0, 0, none⟩) h3).trans E.e3, (hb.cell (p := ⟨4, 0, none⟩) h4).trans E.e4, (hb.cell (p := ⟨3, 0, none⟩) h8).trans E.e8, (hb.cell (p := ⟨1, 0, none⟩) h9).trans E.e9, (hb.cell (p := ⟨5, 0, none⟩) h10).trans E.e10⟩
section
variable {w : World} {base mb sb bp bw bh N : Nat} {X : Nat → Int} {p : List Pq} {vi : Value} {m : Nat → Int} {wt ht : Int → Bool}
theorem RamIs.onBase {w w' : World} (R : RamIs w sb bp bw bh N m wt ht) (h1 : sb < base) (h2 : bp < base) (h3 : bw < base) (h4 : bh < base) (hb : Below base w w') : RamIs w' sb bp bw bh N m wt ht :=
  R.blocks (fun k hk => hb.block k (by rcases hk with rfl | rfl | rfl | rfl <;> assumption))
theorem Kx.onBase {w w' : World} (k : Kx w w' mb vi) (M : MAt w base mb sb X p vi) : Below base w w' :=
  ⟨k.os, k.tape, k.output, k.size, fun j hj => k.block j (by have := M.bs; omega) (by have := M.lb; omega) (fun e => by have := (M.blk j e).2; omega)⟩
theorem MAt.other {w : World} (M : MAt w base mb sb X p vi) (b j : Nat) (v : Value) (h1 : mb ≠ b) (h2 : ∀ k, vi.ownBlock = some k → k ≠ b) : MAt (w.setCell ⟨b, j, none⟩ v) base mb sb X p vi :=
  M.blocks (by simp) (fun k hk => Below.heap_setCell w ⟨b, j, none⟩ v k (by
    rcases hk with rfl | hk
    · exact h1
    · exact h2 k hk))
/-- what waits is for pages that are not watched -/
theorem opR_wt {M M' : Mc} {o : Opx} (h : opR m wt M o = .on M') (hw : ∀ q ∈ M.p, wt (q.a / 256) = false) : ∀ q ∈ M'.p, wt (q.a / 256) = false := by
  unfold opR at h
  by_cases h21 : o.k = 21
  · rw [if_pos h21] at h; split at h
    · cases h
    · injection h with h; subst h; exact hw
  rw [if_neg h21] at h
  by_cases h22 : o.k = 22
  · rw [if_pos h22] at h; split at h
    · cases h
    · injection h with h; subst h; exact hw
  rw [if_neg h22] at h
  by_cases h23 : o.k = 23
  · rw [if_pos h23] at h
    by_cases hc : chk (lo (M.x o.a.toNat + o.i)) (if o.b < 0 then -o.b else o.b) = 0
    · rw [if_pos hc] at h; injection h with h; subst h; exact hw
    · rw [if_neg hc] at h; cases h
  rw [if_neg h23] at h
  by_cases h24 : o.k = 24
  · rw [if_pos h24] at h; split at h
    · rename_i hc
      injection h with h; subst h
      intro q hq
      rcases List.mem_append.1 hq with hq | hq
      · exact hw q hq
      · simp at hq; subst hq; exact hc.2
    · cases h
  rw [if_neg h24] at h
  by_cases h25 : o.k = 25
  · rw [if_pos h25] at h; split at h
    · injection h with h; subst h; exact hw
    · cases h
  rw [if_neg h25] at h
  by_cases h26 : o.k = 26
  · rw [if_pos h26] at h; cases h
  rw [if_neg h26] at h
  by_cases h27 : o.k = 27
  · rw [if_pos h27] at h; cases h
  rw [if_neg h27] at h
  injection h with h; subst h; exact hw
/-- what all ops come to -/
def AllPost (w : World) (base mb sb : Nat) (m : Nat → Int) (wt : Int → Bool) (n : Nat) (r : Out) (e : Ending) (w' : World) : Prop :=
  match r with
  | .trap t => e = .returned (.tuple #[.int .u32 0, .agg #[.bool true, .int .i64 t]]) ∧ Below base w w'
  | .leave to M => e = .returned (.tuple #[.int .u32 to, .agg #[.bool false, .int .i64 0]]) ∧ Below base w w' ∧ u32 to ∧ ∃ (p' : List Pq) (vi' : Value), M.p = pqs p' ∧ p'.length ≤ n ∧ MAt w' base mb sb M.x p' vi' ∧ ∀ q ∈ pqs p', wt (q.a / 256) = false
  | .fell => e = .returned (.tuple #[.int .u32 0, .agg #[.bool true, .int .i64 0]]) ∧ Below base w w'
theorem runX_cons (o : Opx) (l : List Opx) (M : Mc) : runX m wt (o :: l) M = match opR m wt M o with | .on M' => runX m wt l M' | .trap => .trap o.t | .leave to => .leave to M := rfl
set_option maxRecDepth 100000 in
set_option maxHeartbeats 8000000 in
theorem all_any (pe : Nat → Addr) (E : Eg pe w) (hgl : EgB base) (R : RamIs w sb bp bw bh N m wt ht) (r1 : sb < base) (r2 : bp < base) (r3 : bw < base) (r4 : bh < base) (G : MAt w base mb sb X p vi) {v : Value} {l : List Opx} (A : OpsIn w v l) (hob : ∀ k, v.ownBlock = some k → k < base) (hl : l.length ≤ 200) (hp0 : p.length ≤ 100) (many : Int) (hop : ∀ o ∈ l, opE o many = 0) (hw0 : ∀ q ∈ pqs p, wt (q.a / 256) = false) :
    Calls Tryd.prog 18 #[.pointer (some ⟨mb, 0, none⟩), v] w (AllPost w base mb sb m wt (p.length + l.length) (runX m wt l ⟨X, pqs p⟩)) := by
  obtain ⟨ao, cap, rfl, hc, hh⟩ := A.sh
  have HH : Hid (0 < l.length → ∃ b off : Nat, ao = some ⟨b, off, none⟩ ∧ ∀ (i : Nat) (o : Opx), l[i]? = some o → ∀ (j : Nat) (u : Value), (opC o)[j]? = some u → w.cell? ⟨b, off + i * 6 + j, none⟩ = some u) := hh
  have OK : Hid (∀ o ∈ l, o.ok) := A.ok
  have OP : Hid (∀ o ∈ l, opE o many = 0) := hop
  have GH : Hid (MAt w base mb sb X p vi) := G
  have RH : Hid (RamIs w sb bp bw bh N m wt ht) := R
  have EH : Hid (Eg pe w) := E
  have WH : Hid (∀ q ∈ pqs p, wt (q.a / 256) = false) := hw0
  have hbs := G.bs
  have hmb := G.lt
  have VB : Hid (∀ k, vi.ownBlock = some k → k ≠ w.heap.size) := fun k hk => by have := (G.blk k hk).1; omega
  clear hh A hop G R E hw0
  obtain ⟨r, hr⟩ : ∃ r, runX m wt l ⟨X, pqs p⟩ = r := ⟨_, rfl⟩
  have HR : Hid (runX m wt l ⟨X, pqs p⟩ = r) := hr
  rw [hr]
  clear hr
  obtain ⟨P, hP⟩ : ∃ P, AllPost w base mb sb m wt (p.length + l.length) r = P := ⟨_, rfl⟩
  rw [hP]
  have HP : Hid (AllPost w base mb sb m wt (p.length + l.length) r = P) := hP
  clear hP
  go_enter Tryd.func18, Tryd.ntmps18
  go_wp2
  go_loopw [10] (fun i wr => ∃ (j : Nat) (Y : Nat → Int) (q : List Pq) (vj : Value), j ≤ l.length ∧ i = .int .i64 j ∧ runX m wt (l.drop j) ⟨Y, pqs q⟩ = r ∧ MAt wr base mb sb Y q vj ∧ q.length ≤ p.length + j ∧ (∀ k, vj.ownBlock = some k → k ≠ w.heap.size) ∧ (∀ x ∈ pqs q, wt (x.a / 256) = false) ∧ Below base w wr ∧ (wr.cell? ⟨w.heap.size, 0, none⟩ = some (.bool false) ∧ wr.cell? ⟨w.heap.size, 1, none⟩ = some (.int .i64 0) ∧ ∀ j, wr.frozen? ⟨w.heap.size, j, none⟩ = false)) (fun i _ => l.length - (intOf i).toNat)
  case atStart =>
    refine ⟨0, X, p, vi, Nat.zero_le _, rfl, HR.out, GH.out.opened _, by omega, VB.out, WH.out, (Below.refl _ _).alloc hbs _, by simp, by simp, fun j => by simp⟩
  case round =>
    obtain ⟨j, Y, q, vj, hj, rfl, hrun, Gj, hq, vb, hwq, hB, e0, e1, ef⟩ := hrel
    have GJ : Hid (MAt wr base mb sb Y q vj) := Gj
    have RJ : Hid (RamIs wr sb bp bw bh N m wt ht) := RH.out.onBase r1 r2 r3 r4 hB
    have EJ : Hid (Eg pe wr) := EH.out.onBase hgl hB
    have BJ : Hid (Below base w wr) := hB
    have VJ : Hid (∀ k, vj.ownBlock = some k → k ≠ w.heap.size) := vb
    have WJ : Hid (∀ x ∈ pqs q, wt (x.a / 256) = false) := hwq
    have RN : Hid (runX m wt (l.drop j) ⟨Y, pqs q⟩ = r) := hrun
    have hz : w.heap.size < wr.heap.size := World.block_lt_of_cell? _ _ e0
    have f0 := ef 0
    have f1 := ef 1
    have EF : Hid (∀ j, wr.frozen? ⟨w.heap.size, j, none⟩ = false) := ef
    have hmr : mb < wr.heap.size := Gj.lt
    clear Gj hB vb hwq hrun ef
    by_cases hlt : j < l.length
    · obtain ⟨o, ho, hd, hom⟩ : ∃ o, l[j]? = some o ∧ l.drop j = o :: l.drop (j + 1) ∧ o ∈ l := ⟨l[j], List.getElem?_eq_getElem hlt, List.drop_eq_getElem_cons hlt, List.getElem_mem hlt⟩
      rw [hd, runX_cons] at RN
      obtain ⟨b, off, rfl, hcell⟩ := HH.out (by omega)
      have hbb : b < base := hob b rfl
      obtain ⟨x0, x1, x2, x3, x4, x5⟩ := op_cells (w := wr) (fun k u hk => by rw [BJ.out.cell (p := ⟨b, off + j * 6 + k, none⟩) hbb]; exact hcell j o ho k u hk)
      have hok := OK.out o hom
      have hoe := OP.out o hom
      obtain ⟨k0, hbd, _⟩ := opE_zero hoe
      obtain ⟨pd, pa, pb, t0, t1⟩ := bnd_parts hbd
      have hlt' : (j : Int) < l.length := by omega
      have hbr : b < wr.heap.size := by have := BJ.out.size; omega
      have kl := kn_lt o.s
      have OKo : Hid o.ok := hok
      have OEo : Hid (opE o many = 0) := hoe
      clear ho hd hom hcell hok hoe hbd
      by_cases hk25 : kn o.s < 25
      · have s25 : (o.s.toList == [105, 102]) = false := by rw [show (o.s.toList == [105, 102]) = _ from kn_eq o.s 25 (by omega) (by omega)]; simp; omega
        have s26 : (o.s.toList == [111, 117, 116]) = false := by rw [show (o.s.toList == [111, 117, 116]) = _ from kn_eq o.s 26 (by omega) (by omega)]; simp; omega
        have s27 : (o.s.toList == [111, 117, 116, 114]) = false := by rw [show (o.s.toList == [111, 117, 116, 114]) = _ from kn_eq o.s 27 (by omega) (by omega)]; simp; omega
        have hdo := do_any pe (EJ.out.stays ((Below.refl _ _).alloc (Nat.le_refl _) (.cells #[.string o.s, .int .i64 o.d, .int .i64 o.a, .int .i64 o.b, .int .u32 o.i, .int .i64 o.t] 53))) (RJ.out.grow (World.grownBy_alloc wr (.cells #[.string o.s, .int .i64 o.d, .int .i64 o.a, .int .i64 o.b, .int .u32 o.i, .int .i64 o.t] 53) none)) (GJ.out.opened (.cells #[.string o.s, .int .i64 o.d, .int .i64 o.a, .int .i64 o.b, .int .u32 o.i, .int .i64 o.t] 53)) (by omega) o OKo.out many OEo.out hk25
        unfold opV at hdo
        clear pd pa pb
        go_wp2_with fail
        refine hdo.mono ?_
        rintro e w2 (⟨Y2, q2, v2, h1, h2, rfl, G2, m2, k2⟩ | ⟨h1, rfl, k2⟩)
        · have bE : w2.heap[w.heap.size]? = (wr.alloc (.cells #[.string o.s, .int .i64 o.d, .int .i64 o.a, .int .i64 o.b, .int .u32 o.i, .int .i64 o.t] 53)).heap[w.heap.size]? := k2.block _ (by simp; omega) (by omega) (fun e => VJ.out _ e rfl)
          have c0 : w2.cell? ⟨w.heap.size, 0, none⟩ = some (.bool false) := (World.cell?_of_block (a := ⟨w.heap.size, 0, none⟩) bE).trans ((World.grownBy_alloc wr _ none).cell e0 (by simp))
          have c1 : w2.cell? ⟨w.heap.size, 1, none⟩ = some (.int .i64 0) := (World.cell?_of_block (a := ⟨w.heap.size, 1, none⟩) bE).trans ((World.grownBy_alloc wr _ none).cell e1 (by simp))
          have cf : Hid (∀ j, w2.frozen? ⟨w.heap.size, j, none⟩ = false) := fun j => (World.frozen?_of_block (a := ⟨w.heap.size, j, none⟩) bE).trans ((((Below.refl wr.heap.size wr).alloc (Nat.le_refl _) _).frozen (p := ⟨w.heap.size, j, none⟩) hz).trans (EF.out j))
          have B2 : Hid (Below base w w2) := BJ.out.trans (((Below.refl _ _).alloc GJ.out.bs _).trans (k2.onBase (GJ.out.opened _)))
          have G2' : Hid (MAt w2 base mb sb Y2 q2 v2) := G2
          have V2 : Hid (∀ k, v2.ownBlock = some k → k ≠ w.heap.size) := fun k hk => by
            rcases m2 k hk with h | h
            · exact VJ.out k h
            · simp at h; omega
          have W2 : Hid (∀ x ∈ pqs q2, wt (x.a / 256) = false) := opR_wt h1 WJ.out
          have RN2 : Hid (runX m wt (l.drop (j + 1)) ⟨Y2, pqs q2⟩ = r) := by have := RN.out; rw [h1] at this; exact this
          clear bE k2 m2 G2 h1 hdo x0 x1 x2 x3 x4 x5 e0 e1 f0 f1
          go_wp2
          go_roundw
          case rel => exact ⟨j + 1, Y2, q2, v2, by omega, by go_num, RN2.out, G2'.out, by omega, V2.out, W2.out, B2.out, c0, c1, cf.out⟩
          case measure => simp [intOf]; omega
        · have bE : w2.heap[w.heap.size]? = (wr.alloc (.cells #[.string o.s, .int .i64 o.d, .int .i64 o.a, .int .i64 o.b, .int .u32 o.i, .int .i64 o.t] 53)).heap[w.heap.size]? := k2.block _ (by simp; omega) (by omega) (fun e => VJ.out _ e rfl)
          have c0 : w2.cell? ⟨w.heap.size, 0, none⟩ = some (.bool false) := (World.cell?_of_block (a := ⟨w.heap.size, 0, none⟩) bE).trans ((World.grownBy_alloc wr _ none).cell e0 (by simp))
          have c1 : w2.cell? ⟨w.heap.size, 1, none⟩ = some (.int .i64 0) := (World.cell?_of_block (a := ⟨w.heap.size, 1, none⟩) bE).trans ((World.grownBy_alloc wr _ none).cell e1 (by simp))
          have cf : ∀ j, w2.frozen? ⟨w.heap.size, j, none⟩ = false := fun j => (World.frozen?_of_block (a := ⟨w.heap.size, j, none⟩) bE).trans ((((Below.refl wr.heap.size wr).alloc (Nat.le_refl _) _).frozen (p := ⟨w.heap.size, j, none⟩) hz).trans (EF.out j))
          have g0 := cf 0
          have g1 := cf 1
          have bO : w2.heap[wr.heap.size]? = (wr.alloc (.cells #[.string o.s, .int .i64 o.d, .int .i64 o.a, .int .i64 o.b, .int .u32 o.i, .int .i64 o.t] 53)).heap[wr.heap.size]? := k2.block _ (by simp) (by omega) (fun e => by have := (GJ.out.blk _ e).1; omega)
          have c5 : w2.cell? ⟨wr.heap.size, 5, none⟩ = some (.int .i64 o.t) := (World.cell?_of_block (a := ⟨wr.heap.size, 5, none⟩) bO).trans (by simp)
          have B2 : Hid (Below base w w2) := BJ.out.trans (((Below.refl _ _).alloc GJ.out.bs _).trans (k2.onBase (GJ.out.opened _)))
          have RT : Hid (r = .trap o.t) := by have := RN.out; rw [h1] at this; exact this.symm
          clear bE bO k2 h1 hdo x0 x1 x2 x3 x4 x5 e0 e1 f0 f1 cf
          go_upto_region 6 with fail
          refine wp_region_phase 4 [(0, 0), (1, 1), (3, 0), (2, 2), (4, 2)] (fun W => W.cell? ⟨wr.heap.size, 5, none⟩ = some (.int .i64 o.t)) (by kernel_rfl) (by kernel_rfl) (fun _ _ _ d _ h => by cases d <;> exact h) (by simpa using c5) ?_
          repeat (first | (refine wpPlanZ_free (by rfl) (by rfl) (fun W => by (go_simp; try with_reducible rfl)) (fun K hK => ?_); go_simp; refine hK _ ?_; clear hK K) | (refine wpPlanZ_quiet (by rfl) (by rfl) (fun W hW => by (have z0 := hW; go_simp; try with_reducible rfl)) (fun K hK => ?_); go_simp; refine hK _ ?_; clear hK K))
          refine wpPlanZ_serial (by rfl) (by rfl) (fun K hK => ?_)
          go_simp
          refine hK _ _ (fun _ => by simpa using c5) ?_
          clear hK K
          refine wpPlanZ_serial (by rfl) (by rfl) (fun K hK => ?_)
          go_simp
          refine hK _ _ (fun h => absurd h (by decide)) ?_
          clear hK K
          refine wpPlanZ_nil ?_
          go_wp2
          obtain ⟨y0, y1⟩ := put2 (v0 := .bool true) (v1 := .int .i64 o.t) c0 c1
          refine bodyPost_ret (results_tmp_cell (A := ⟨w.heap.size, 0, none⟩) rfl _ _ _ rfl (end_load (w := ((w2.setCell ⟨w.heap.size, 0, none⟩ (.bool true)).setCell ⟨w.heap.size, 1, none⟩ (.int .i64 o.t)).drew) y0 y1)) rfl ?_
          rw [← HP.out, RT.out]
          exact ⟨rfl, below_drew ((B2.out.setCell (p := ⟨w.heap.size, 0, none⟩) hbs _).setCell (p := ⟨w.heap.size, 1, none⟩) hbs _)⟩
      · have h3 : kn o.s = 25 ∨ kn o.s = 26 ∨ kn o.s = 27 := by omega
        have G0 := GJ.out.opened (.cells #[.string o.s, .int .i64 o.d, .int .i64 o.a, .int .i64 o.b, .int .u32 o.i, .int .i64 o.t] 53)
        have c0 : (wr.alloc (.cells #[.string o.s, .int .i64 o.d, .int .i64 o.a, .int .i64 o.b, .int .u32 o.i, .int .i64 o.t] 53)).cell? ⟨w.heap.size, 0, none⟩ = some (.bool false) := (World.grownBy_alloc wr _ none).cell e0 (by simp)
        have c1 : (wr.alloc (.cells #[.string o.s, .int .i64 o.d, .int .i64 o.a, .int .i64 o.b, .int .u32 o.i, .int .i64 o.t] 53)).cell? ⟨w.heap.size, 1, none⟩ = some (.int .i64 0) := (World.grownBy_alloc wr _ none).cell e1 (by simp)
        have cf : ∀ j, (wr.alloc (.cells #[.string o.s, .int .i64 o.d, .int .i64 o.a, .int .i64 o.b, .int .u32 o.i, .int .i64 o.t] 53)).frozen? ⟨w.heap.size, j, none⟩ = false := fun j => (((Below.refl wr.heap.size wr).alloc (Nat.le_refl _) _).frozen (p := ⟨w.heap.size, j, none⟩) hz).trans (EF.out j)
        have g0 := cf 0
        have g1 := cf 1
        have CF : Hid (∀ j, (wr.alloc (.cells #[.string o.s, .int .i64 o.d, .int .i64 o.a, .int .i64 o.b, .int .u32 o.i, .int .i64 o.t] 53)).frozen? ⟨w.heap.size, j, none⟩ = false) := cf
        have BV : Hid (Below base w (wr.alloc (.cells #[.string o.s, .int .i64 o.d, .int .i64 o.a, .int .i64 o.b, .int .u32 o.i, .int .i64 o.t] 53))) := BJ.out.alloc GJ.out.bs _
        have hio : Hid (0 ≤ o.i ∧ o.i < 4294967296) := ⟨OKo.out.i0, OKo.out.i1⟩
        rcases h3 with h3 | h3 | h3
        · have s25 : (o.s.toList == [105, 102]) = true := by rw [show (o.s.toList == [105, 102]) = _ from kn_eq o.s 25 (by omega) (by omega)]; simpa using h3
          rw [h3] at pa
          have pa := alw_read (show alw 1 o.a = true from pa)
          obtain ⟨a, ha⟩ : ∃ a : Nat, o.a = a := ⟨o.a.toNat, by omega⟩
          have xa := G0.x a (by omega)
          have ha0 : (a : Int) < 64 := by omega
          have HX : Hid (opR m wt ⟨Y, pqs q⟩ o = if Y a = 0 then .on ⟨Y, pqs q⟩ else .leave o.i) := by
            show _ = _; unfold opR Opx.k; simp [h3, ha]
          have HA : Hid (o.a = a) := ha
          rw [ha] at c0 c1 g0 g1 xa G0 CF BV
          have k2 : (wr.alloc (.cells #[.string o.s, .int .i64 o.d, .int .i64 a, .int .i64 o.b, .int .u32 o.i, .int .i64 o.t] 53)).cell? ⟨wr.heap.size, 2, none⟩ = some (.int .i64 a) := by simp
          have k4 : (wr.alloc (.cells #[.string o.s, .int .i64 o.d, .int .i64 a, .int .i64 o.b, .int .u32 o.i, .int .i64 o.t] 53)).cell? ⟨wr.heap.size, 4, none⟩ = some (.int .u32 o.i) := by simp
          rw [ha] at x2
          clear ha pd pb pa h3
          go_upto_region 8 with fail
          generalize wr.alloc (.cells #[.string o.s, .int .i64 o.d, .int .i64 a, .int .i64 o.b, .int .u32 o.i, .int .i64 o.t] 53) = V at *
          go_quiet (fail)
          by_cases hy : Y a = 0
          · have RN2 : Hid (runX m wt (l.drop (j + 1)) ⟨Y, pqs q⟩ = r) := by have := RN.out; rw [HX.out, if_pos hy] at this; exact this
            have hy' : (Y a != 0) = false := by simpa using hy
            go_wp2
            go_roundw
            case rel => exact ⟨j + 1, Y, q, vj, by omega, by go_num, RN2.out, G0.drewN nq, by omega, VJ.out, WJ.out, below_drewN BV.out nq, c0, c1, CF.out⟩
            case measure => simp [intOf]; omega
          · have RT : Hid (r = .leave o.i ⟨Y, pqs q⟩) := by have := RN.out; rw [HX.out, if_neg hy] at this; exact this.symm
            have hy' : (Y a != 0) = true := by simpa using hy
            have d0 : (V.drewN nq).cell? ⟨w.heap.size, 0, none⟩ = some (.bool false) := c0
            have d1 : (V.drewN nq).cell? ⟨w.heap.size, 1, none⟩ = some (.int .i64 0) := c1
            have d4 : (V.drewN nq).cell? ⟨wr.heap.size, 4, none⟩ = some (.int .u32 o.i) := k4
            have e0' : (V.drewN nq).frozen? ⟨w.heap.size, 0, none⟩ = false := g0
            have e1' : (V.drewN nq).frozen? ⟨w.heap.size, 1, none⟩ = false := g1
            have GV : Hid (MAt (V.drewN nq) base mb sb Y q vj) := G0.drewN nq
            have BW : Hid (Below base w (V.drewN nq)) := below_drewN BV.out nq
            clear c0 c1 k2 k4 g0 g1 G0 CF BV xa
            generalize V.drewN nq = U at *
            go_wp2
            obtain ⟨y0, y1⟩ := put2 (v0 := .bool false) (v1 := .int .i64 0) d0 d1
            refine bodyPost_ret (results_tmp_cell (A := ⟨w.heap.size, 0, none⟩) rfl _ _ _ rfl (end_load y0 y1)) rfl ?_
            rw [← HP.out, RT.out]
            exact ⟨rfl, ((BW.out.setCell (p := ⟨w.heap.size, 0, none⟩) hbs _).setCell (p := ⟨w.heap.size, 1, none⟩) hbs _), hio.out, q, vj, rfl, by omega, (GV.out.other w.heap.size 0 _ (by omega) VJ.out).other w.heap.size 1 _ (by omega) VJ.out, WJ.out⟩
        · have s25 : (o.s.toList == [105, 102]) = false := by rw [show (o.s.toList == [105, 102]) = _ from kn_eq o.s 25 (by omega) (by omega)]; simp; omega
          have s26 : (o.s.toList == [111, 117, 116]) = true := by rw [show (o.s.toList == [111, 117, 116]) = _ from kn_eq o.s 26 (by omega) (by omega)]; simpa using h3
          have RT : Hid (r = .leave o.i ⟨Y, pqs q⟩) := by
            have := RN.out
            rw [show opR m wt ⟨Y, pqs q⟩ o = .leave o.i by unfold opR Opx.k; simp [h3]] at this; exact this.symm
          have d4 : (wr.alloc (.cells #[.string o.s, .int .i64 o.d, .int .i64 o.a, .int .i64 o.b, .int .u32 o.i, .int .i64 o.t] 53)).cell? ⟨wr.heap.size, 4, none⟩ = some (.int .u32 o.i) := by simp
          have GV : Hid (MAt (wr.alloc (.cells #[.string o.s, .int .i64 o.d, .int .i64 o.a, .int .i64 o.b, .int .u32 o.i, .int .i64 o.t] 53)) base mb sb Y q vj) := G0
          clear pd pa pb cf h3 G0
          go_upto_region 10 with fail
          have d0 := c0
          have d1 := c1
          have BW := BV
          generalize wr.alloc (.cells #[.string o.s, .int .i64 o.d, .int .i64 o.a, .int .i64 o.b, .int .u32 o.i, .int .i64 o.t] 53) = U at *
          go_wp2
          obtain ⟨y0, y1⟩ := put2 (v0 := .bool false) (v1 := .int .i64 0) d0 d1
          refine bodyPost_ret (results_tmp_cell (A := ⟨w.heap.size, 0, none⟩) rfl _ _ _ rfl (end_load y0 y1)) rfl ?_
          rw [← HP.out, RT.out]
          exact ⟨rfl, ((BW.out.setCell (p := ⟨w.heap.size, 0, none⟩) hbs _).setCell (p := ⟨w.heap.size, 1, none⟩) hbs _), hio.out, q, vj, rfl, by omega, (GV.out.other w.heap.size 0 _ (by omega) VJ.out).other w.heap.size 1 _ (by omega) VJ.out, WJ.out⟩
        · have s25 : (o.s.toList == [105, 102]) = false := by rw [show (o.s.toList == [105, 102]) = _ from kn_eq o.s 25 (by omega) (by omega)]; simp; omega
          have s26 : (o.s.toList == [111, 117, 116]) = false := by rw [show (o.s.toList == [111, 117, 116]) = _ from kn_eq o.s 26 (by omega) (by omega)]; simp; omega
          have s27 : (o.s.toList == [111, 117, 116, 114]) = true := by rw [show (o.s.toList == [111, 117, 116, 114]) = _ from kn_eq o.s 27 (by omega) (by omega)]; simpa using h3
          rw [h3] at pa
          have pa := alw_read (show alw 1 o.a = true from pa)
          obtain ⟨a, ha⟩ : ∃ a : Nat, o.a = a := ⟨o.a.toNat, by omega⟩
          have xa := G0.x a (by omega)
          have ha0 : (a : Int) < 64 := by omega
          have hia : Hid (0 ≤ Y a ∧ Y a < 4294967296) := G0.xb a
          have RT : Hid (r = .leave (Y a) ⟨Y, pqs q⟩) := by
            have := RN.out
            rw [show opR m wt ⟨Y, pqs q⟩ o = .leave (Y a) by unfold opR Opx.k; simp [h3, ha]] at this; exact this.symm
          have GV : Hid (MAt (wr.alloc (.cells #[.string o.s, .int .i64 o.d, .int .i64 o.a, .int .i64 o.b, .int .u32 o.i, .int .i64 o.t] 53)) base mb sb Y q vj) := G0
          rw [ha] at c0 c1 g0 g1 xa GV BV
          have k2 : (wr.alloc (.cells #[.string o.s, .int .i64 o.d, .int .i64 a, .int .i64 o.b, .int .u32 o.i, .int .i64 o.t] 53)).cell? ⟨wr.heap.size, 2, none⟩ = some (.int .i64 a) := by simp
          rw [ha] at x2
          clear ha pd pb pa h3 cf CF G0
          go_upto_region 13 with fail
          generalize wr.alloc (.cells #[.string o.s, .int .i64 o.d, .int .i64 a, .int .i64 o.b, .int .u32 o.i, .int .i64 o.t] 53) = V at *
          refine wp_region_phase 9 [(0, 0), (1, 0), (2, 1), (3, 0), (4, 0), (5, 0), (6, 1), (8, 0), (7, 2), (9, 2)] (fun W => W.cell? ⟨wr.heap.size, 2, none⟩ = some (.int .i64 a) ∧ W.cell? ⟨mb, a, none⟩ = some (.int .u32 (Y a))) (by kernel_rfl) (by kernel_rfl) (fun _ _ _ d _ h => by cases d <;> exact h) ⟨by simpa using k2, by simpa using xa⟩ ?_
          repeat (first | (refine wpPlanZ_free (by rfl) (by rfl) (fun W => by (go_simp; try with_reducible rfl)) (fun K hK => ?_); go_simp; refine hK _ ?_; clear hK K) | (refine wpPlanZ_quiet (by rfl) (by rfl) (fun W hW => by (obtain ⟨z0, z1⟩ := hW; go_simp; try with_reducible rfl)) (fun K hK => ?_); go_simp; refine hK _ ?_; clear hK K))
          refine wpPlanZ_serial (by rfl) (by rfl) (fun K hK => ?_)
          go_simp
          refine hK _ _ (fun _ => ⟨by simpa using k2, by simpa using xa⟩) ?_
          clear hK K
          refine wpPlanZ_serial (by rfl) (by rfl) (fun K hK => ?_)
          go_simp
          refine hK _ _ (fun h => absurd h (by decide)) ?_
          clear hK K
          refine wpPlanZ_nil ?_
          have d0 := c0
          have d1 := c1
          have BW := BV
          go_wp2
          obtain ⟨y0, y1⟩ := put2 (v0 := .bool false) (v1 := .int .i64 0) d0 d1
          refine bodyPost_ret (results_tmp_cell (A := ⟨w.heap.size, 0, none⟩) rfl _ _ _ rfl (end_load (w := ((V.setCell ⟨w.heap.size, 0, none⟩ (.bool false)).setCell ⟨w.heap.size, 1, none⟩ (.int .i64 0)).drew) y0 y1)) rfl ?_
          rw [← HP.out, RT.out]
          exact ⟨rfl, below_drew ((BW.out.setCell (p := ⟨w.heap.size, 0, none⟩) hbs _).setCell (p := ⟨w.heap.size, 1, none⟩) hbs _), hia.out, q, vj, rfl, by omega, ((GV.out.other w.heap.size 0 _ (by omega) VJ.out).other w.heap.size 1 _ (by omega) VJ.out).drew, WJ.out⟩
    · obtain rfl : j = l.length := by omega
      have RT : Hid (r = .fell) := by have := RN.out; rw [List.drop_length] at this; exact this.symm
      go_wp2
      obtain ⟨y0, y1⟩ := put2 (v0 := .bool true) (v1 := .int .i64 0) e0 e1
      refine bodyPost_ret (results_tmp_cell (A := ⟨w.heap.size, 0, none⟩) rfl _ _ _ rfl (end_load y0 y1)) rfl ?_
      rw [← HP.out, RT.out]
      exact ⟨rfl, (BJ.out.setCell (p := ⟨w.heap.size, 0, none⟩) hbs _).setCell (p := ⟨w.heap.size, 1, none⟩) hbs _⟩
end
end Go.Proofs.YtjjlbpenagobiaaDoor
