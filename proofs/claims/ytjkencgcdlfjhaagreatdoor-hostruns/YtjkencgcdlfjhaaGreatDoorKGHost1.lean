/-
  Package host: read.
-/
import Derived.Test.YtjkencgcdlfjhaaGreatDoorKIrChk2
import Derived.Test.YtjkencgcdlfjhaaGreatDoorJRun0
import Derived.Test.YtjkencgcdlfjhaaGreatDoorKGDo
import Derived.Test.YtjkencgcdlfjhaaGreatDoorKSameOps
namespace Go.Proofs.YtjkencgcdlfjhaaGreatDoor
open Go.RowKit Go.Maps
open Num
set_option linter.unusedVariables false
def efL (l : List Ef) : List Value := l.flatMap fun e => (efA e).toList
theorem efL_snoc (l : List Ef) (r : Ef) : efL (l ++ [r]) = efL l ++ (efA r).toList := by unfold efL; rw [List.flatMap_append]; simp
theorem efL_get : ∀ (p : List Ef) (j : Nat) (q : Ef) (i : Nat), p[j]? = some q → i < 7 → (efL p)[j * 7 + i]? = (efA q).toList[i]?
  | [], j, q, i, h, _ => by simp at h
  | r :: p, 0, q, i, h, hi => by
    obtain rfl : r = q := by simpa using h
    show ((efA r).toList ++ efL p)[0 * 7 + i]? = _
    rw [Nat.zero_mul, Nat.zero_add, List.getElem?_append_left (by show i < 7; exact hi)]
  | r :: p, j + 1, q, i, h, hi => by
    show ((efA r).toList ++ efL p)[(j + 1) * 7 + i]? = _
    have e : (efA r).toList.length = 7 := rfl
    rw [List.getElem?_append_right (by rw [e]; omega), e, show (j + 1) * 7 + i - 7 = j * 7 + i by omega]
    exact efL_get p j q i (by simpa using h) hi
theorem efA_one (r : Ef) : ∀ u ∈ (efA r).toList, u.oneCell' = true := by
  intro u h; simp [efA] at h; rcases h with rfl | rfl | rfl | rfl | rfl | rfl | rfl <;> rfl
theorem infoEf : (Tryz.prog.info? 110).map (fun i => (i.zero, i.size, i.bytes)) = some (some (.agg #[.int .i64 0, .int .u32 0, .int .u32 0, .int .i64 0, .int .u32 0, .bool false, .int .u32 0]), 7, 48) := by kernel_rfl
theorem end_putG {W : World} {B : Nat} {u0 u1 : Value} (z0 : W.cell? ⟨B, 0, none⟩ = some u0) (z1 : W.cell? ⟨B, 1, none⟩ = some u1) (v0 v1 : Value) : ((W.setCell ⟨B, 0, none⟩ v0).setCell ⟨B, 1, none⟩ v1).cell? ⟨B, 0, none⟩ = some v0 ∧ ((W.setCell ⟨B, 0, none⟩ v0).setCell ⟨B, 1, none⟩ v1).cell? ⟨B, 1, none⟩ = some v1 := by
  have a1 := World.cell?_setCell_same W ⟨B, 0, none⟩ v0 z0
  have a2 : (W.setCell ⟨B, 0, none⟩ v0).cell? ⟨B, 1, none⟩ = some u1 := by rw [World.cell?_setCell_other _ _ _ _ (by intro e; injection e with e1 e2; omega)]; exact z1
  exact ⟨by rw [World.cell?_setCell_other _ _ _ _ (by intro e; injection e with e1 e2; omega)]; exact a1, World.cell?_setCell_same _ _ _ a2⟩
theorem end_loadG {w : World} {B : Nat} {a b : Value} (z0 : w.cell? ⟨B, 0, none⟩ = some a) (z1 : w.cell? ⟨B, 1, none⟩ = some b) : (loadVar 45 ⟨B, 0, none⟩).run Tryz.prog w = .ok (.agg #[a, b]) w := by
  simp [go_sem, z0, z1]
theorem results_tmp_cellG {fn : Func} {p u : Tmp} {ty : TypeId} {A : Addr} {x : Value} (h : fn.results = #[.tmp u, .cell p ty]) (tmps : Array Value) (P : Program) (w : World) (hp : tmps.getD p undef = .pointer (some A)) (hl : (loadVar ty A).run P w = .ok x w) :
    (results fn tmps).run P w = .ok (.tuple #[tmps.getD u undef, x]) w := by
  simp only [results, h]
  simp only [asAddr, hp, Sem.run_bind, List.mapM_toArray, List.mapM_cons, List.mapM_nil, Sem.run_map, Sem.run_pure, Result.andThen, hl]
  simp
/-- what a row's reading ends with -/
def RdPost (w : World) (es : List Ef) (t : Option Int) (e : Ending) (w' : World) : Prop :=
  match t with
  | some t => e = .returned (.tuple #[.slice none 0 0, .agg #[.bool true, .int .i64 t]]) ∧ Below w.heap.size w w'
  | none => ∃ u, e = .returned (.tuple #[u, .agg #[.bool false, .int .i64 0]]) ∧ w'.ownsRow (w.heap.size + 1) 110 7 u es.length (efL es) ∧ Below w.heap.size w w'
section
variable {w : World} {base mb stb sb bp bw bh N : Nat} {X : Nat → Int} {p : List Pq} {vi : Value} {m : Nat → Int} {wt ht : Int → Bool}
def efs (wt : Int → Bool) (X M : Nat → Int) (row : List Opx) : List Ef := row.map fun o => efO o (resZ wt X M o)
theorem efs_snoc {wt : Int → Bool} {X M : Nat → Int} {row : List Opx} {j : Nat} {o : Opx} (h : row[j]? = some o) : efs wt X M (row.take (j + 1)) = efs wt X M (row.take j) ++ [efO o (resZ wt X M o)] := by
  unfold efs; rw [take_snoc' h, List.map_append]; rfl
set_option maxRecDepth 100000 in
set_option maxHeartbeats 8000000 in
theorem hread_any (pe : Nat → Addr) (E : Eg pe w) (R : RamIs w sb bp bw bh N m wt ht) (G : GAt w base mb stb sb X p vi) (hp : p.length ≤ 1000) {v : Value} {row : List Opx} (A : OpsIn w v row) (hl : row.length ≤ 1000) (many : Int) (hw : ∀ o ∈ row, opE o many = 0) :
    Calls Tryz.prog 74 #[.pointer (some ⟨mb, 0, none⟩), v] w fun e w' => RdPost w (efs wt X (vw m (pqs p)) row) (trapZ wt X (vw m (pqs p)) row) e w' := by
  have HRD : Hid (∀ W, Below w.heap.size w W → ∀ o ∈ row, Calls Tryz.prog 51 #[.pointer (some ⟨mb, 0, none⟩), opV o] W (ReadPost W o (resZ wt X (vw m (pqs p)) o))) := fun W hW o ho => read_any pe (E.stays hW) (R.stays hW (Nat.le_refl _)) (G.stays hW) hp o (A.ok o ho) many (hw o ho)
  generalize vw m (pqs p) = M at *
  obtain ⟨ao, cap, rfl, hc, hh⟩ := A.sh
  have HH : Hid (0 < row.length → ∃ b off : Nat, ao = some ⟨b, off, none⟩ ∧ ∀ (i : Nat) (o : Opx), row[i]? = some o → ∀ (j : Nat) (u : Value), (opC o)[j]? = some u → w.cell? ⟨b, off + i * 6 + j, none⟩ = some u) := hh
  obtain ⟨i0, hi, hz0, hz1, hz2⟩ := info_parts infoEf
  obtain ⟨tz, htz⟩ : ∃ tz, trapZ wt X M row = tz := ⟨_, rfl⟩
  have HTZ : Hid (trapZ wt X M row = tz) := htz
  rw [htz]
  clear htz E R G A hh hw
  have B0 : Hid (Below w.heap.size w (w.alloc (.cells #[.bool false, .int .i64 0] 45))) := (Below.refl _ _).alloc (Nat.le_refl _) _
  have e0 : (w.alloc (.cells #[.bool false, .int .i64 0] 45)).cell? ⟨w.heap.size, 0, none⟩ = some (.bool false) := by simp
  have e1 : (w.alloc (.cells #[.bool false, .int .i64 0] 45)).cell? ⟨w.heap.size, 1, none⟩ = some (.int .i64 0) := by simp
  have ef : ∀ j, (w.alloc (.cells #[.bool false, .int .i64 0] 45)).frozen? ⟨w.heap.size, j, none⟩ = false := fun j => World.frozen?_alloc_at _ _ _ _ rfl
  have hVs : (w.alloc (.cells #[.bool false, .int .i64 0] 45)).heap.size = w.heap.size + 1 := by simp
  go_enter Tryz.func74, Tryz.ntmps74
  go_upto_region 1 with fail
  generalize w.alloc (.cells #[.bool false, .int .i64 0] 45) = V at *
  have hl' : (row.length : Int) ≤ 1000 := by omega
  go_wp2_with (at_make; refine wpList_make_own _ rfl _ _ 152 rfl (w.heap.size + 1) 110 i0 (.agg #[.int .i64 0, .int .u32 0, .int .u32 0, .int .i64 0, .int .u32 0, .bool false, .int .u32 0]) 7 Tryz.underlying152 hi hz0 hz1 _ _ _ row.length rfl rfl rfl (by rw [hz2]; omega) (by unfold maxLen; omega) (by omega) ?_; intro w1 hown1 hg1)
  have hBV : Below (w.heap.size + 1) V w1 := ⟨hg1.os, hg1.tape, hg1.output, hg1.size, fun k hk => hg1.block k (by omega) (by simp)⟩
  clear hg1
  rw [hVs] at hown1
  go_loopw [6, 16] (fun u i wr => ∃ j : Nat, j ≤ row.length ∧ i = .int .i64 j ∧ wr.ownsRow (w.heap.size + 1) 110 7 u j (efL (efs wt X M (row.take j))) ∧ Hid (∀ o ∈ row.take j, (resZ wt X M o).trap = false) ∧ Below (w.heap.size + 1) V wr) (fun _ i _ => row.length - (intOf i).toNat)
  case atStart => exact ⟨0, Nat.zero_le _, rfl, hown1, (by intro o ho; simp at ho), hBV⟩
  case round =>
    obtain ⟨j, hj, rfl, hown, HNT, hB⟩ := hrel
    have hBw : Hid (Below w.heap.size w wr) := B0.out.trans (hB.mono (by omega))
    have hnr : w.heap.size < wr.heap.size := by have := hB.size; omega
    have r0 := (hB.cell (p := ⟨w.heap.size, 0, none⟩) (show w.heap.size < w.heap.size + 1 by omega)).trans e0
    have r1 := (hB.cell (p := ⟨w.heap.size, 1, none⟩) (show w.heap.size < w.heap.size + 1 by omega)).trans e1
    have rf : ∀ k, wr.frozen? ⟨w.heap.size, k, none⟩ = false := fun k => (hB.frozen (p := ⟨w.heap.size, k, none⟩) (show w.heap.size < w.heap.size + 1 by omega)).trans (ef k)
    have HB : Hid (Below (w.heap.size + 1) V wr) := hB
    have HOW : Hid (wr.ownsRow (w.heap.size + 1) 110 7 u6 j (efL (efs wt X M (row.take j)))) := hown
    clear hB hown hown1 hBV e0 e1 ef
    by_cases hlt : j < row.length
    · obtain ⟨o, ho⟩ : ∃ o, row[j]? = some o := ⟨_, List.getElem?_eq_getElem hlt⟩
      obtain ⟨b, off, rfl, hcell⟩ := HH.out (by omega)
      obtain ⟨x0, x1, x2, x3, x4, x5⟩ := op_cells (w := wr) (fun k u hk => by rw [hBw.out.cell (World.block_lt_of_cell? _ _ (hcell j o ho k u hk))]; exact hcell j o ho k u hk)
      have zb := World.block_lt_of_cell? _ _ x0
      have hlt' : (j : Int) < row.length := by omega
      have hB1 : Hid (Below wr.heap.size wr (wr.alloc (.cells #[.string o.s, .int .i64 o.d, .int .i64 o.a, .int .i64 o.b, .int .u32 o.i, .int .i64 o.t] 92))) := (Below.refl _ _).alloc (Nat.le_refl _) _
      have hrd := HRD.out (wr.alloc (.cells #[.string o.s, .int .i64 o.d, .int .i64 o.a, .int .i64 o.b, .int .u32 o.i, .int .i64 o.t] 92)) (hBw.out.trans (hB1.out.mono hBw.out.size)) o (List.mem_of_getElem? ho)
      have c5 : (wr.alloc (.cells #[.string o.s, .int .i64 o.d, .int .i64 o.a, .int .i64 o.b, .int .u32 o.i, .int .i64 o.t] 92)).cell? ⟨wr.heap.size, 5, none⟩ = some (.int .i64 o.t) := by simp
      have c0 : (wr.alloc (.cells #[.string o.s, .int .i64 o.d, .int .i64 o.a, .int .i64 o.b, .int .u32 o.i, .int .i64 o.t] 92)).cell? ⟨wr.heap.size, 0, none⟩ = some (.string o.s) := by simp
      have c1 : (wr.alloc (.cells #[.string o.s, .int .i64 o.d, .int .i64 o.a, .int .i64 o.b, .int .u32 o.i, .int .i64 o.t] 92)).cell? ⟨wr.heap.size, 1, none⟩ = some (.int .i64 o.d) := by simp
      have c2 : (wr.alloc (.cells #[.string o.s, .int .i64 o.d, .int .i64 o.a, .int .i64 o.b, .int .u32 o.i, .int .i64 o.t] 92)).cell? ⟨wr.heap.size, 2, none⟩ = some (.int .i64 o.a) := by simp
      have c3 : (wr.alloc (.cells #[.string o.s, .int .i64 o.d, .int .i64 o.a, .int .i64 o.b, .int .u32 o.i, .int .i64 o.t] 92)).cell? ⟨wr.heap.size, 3, none⟩ = some (.int .i64 o.b) := by simp
      have c4 : (wr.alloc (.cells #[.string o.s, .int .i64 o.d, .int .i64 o.a, .int .i64 o.b, .int .u32 o.i, .int .i64 o.t] 92)).cell? ⟨wr.heap.size, 4, none⟩ = some (.int .u32 o.i) := by simp
      have HTT : Hid ((resZ wt X M o).trap = true → tz = some o.t) := fun ht => by rw [← HTZ.out, trapZ_at ho ht HNT.out]
      have HSN : Hid (efL (efs wt X M (row.take (j + 1))) = efL (efs wt X M (row.take j)) ++ (efA (efO o (resZ wt X M o))).toList) := by show _ = _; rw [efs_snoc ho, efL_snoc]
      have HNX : Hid ((resZ wt X M o).trap = false → ∀ q ∈ row.take (j + 1), (resZ wt X M q).trap = false) := fun ht q hq => by
        rw [take_snoc' ho] at hq
        rcases List.mem_append.1 hq with h | h
        · exact HNT.out q h
        · rw [List.mem_singleton.1 h]; exact ht
      unfold opV at hrd
      generalize hRO : resZ wt X M o = ro at *
      clear hcell ho hRO
      go_upto_region 5 with fail
      generalize hWW : wr.alloc (.cells #[.string o.s, .int .i64 o.d, .int .i64 o.a, .int .i64 o.b, .int .u32 o.i, .int .i64 o.t] 92) = W1 at *
      have hsz1 : W1.heap.size = wr.heap.size + 1 := by rw [← hWW, World.size_alloc]
      clear hWW x0 x1 x2 x3 x4 x5
      go_wp2_with fail
      refine hrd.mono ?_
      rintro e w2 ⟨⟨E, rfl, hE⟩, hb2⟩
      have hBw2 : Hid (Below wr.heap.size wr w2) := hB1.out.trans (hb2.mono (by omega))
      have k5 : w2.cell? ⟨wr.heap.size, 5, none⟩ = some (.int .i64 o.t) := (hb2.cell (p := ⟨wr.heap.size, 5, none⟩) (show wr.heap.size < W1.heap.size by omega)).trans c5
      have hsz2 : wr.heap.size < w2.heap.size := by have := hb2.size; omega
      unfold efA
      have hB3 : Hid (Below wr.heap.size wr (w2.alloc (.cells #[.int .i64 E.r, .int .u32 E.v, .int .u32 E.a, .int .i64 E.s, .int .u32 E.sv, .bool E.lv, .int .u32 E.to] 110))) := hBw2.out.alloc (by omega) _
      have j5 : (w2.alloc (.cells #[.int .i64 E.r, .int .u32 E.v, .int .u32 E.a, .int .i64 E.s, .int .u32 E.sv, .bool E.lv, .int .u32 E.to] 110)).cell? ⟨wr.heap.size, 5, none⟩ = some (.int .i64 o.t) := (World.grownBy_alloc w2 _ none).cell k5 (by simp)
      have f0 : (w2.alloc (.cells #[.int .i64 E.r, .int .u32 E.v, .int .u32 E.a, .int .i64 E.s, .int .u32 E.sv, .bool E.lv, .int .u32 E.to] 110)).cell? ⟨w2.heap.size, 0, none⟩ = some (.int .i64 E.r) := by simp
      have f1 : (w2.alloc (.cells #[.int .i64 E.r, .int .u32 E.v, .int .u32 E.a, .int .i64 E.s, .int .u32 E.sv, .bool E.lv, .int .u32 E.to] 110)).cell? ⟨w2.heap.size, 1, none⟩ = some (.int .u32 E.v) := by simp
      have f2 : (w2.alloc (.cells #[.int .i64 E.r, .int .u32 E.v, .int .u32 E.a, .int .i64 E.s, .int .u32 E.sv, .bool E.lv, .int .u32 E.to] 110)).cell? ⟨w2.heap.size, 2, none⟩ = some (.int .u32 E.a) := by simp
      have f3 : (w2.alloc (.cells #[.int .i64 E.r, .int .u32 E.v, .int .u32 E.a, .int .i64 E.s, .int .u32 E.sv, .bool E.lv, .int .u32 E.to] 110)).cell? ⟨w2.heap.size, 3, none⟩ = some (.int .i64 E.s) := by simp
      have f4 : (w2.alloc (.cells #[.int .i64 E.r, .int .u32 E.v, .int .u32 E.a, .int .i64 E.s, .int .u32 E.sv, .bool E.lv, .int .u32 E.to] 110)).cell? ⟨w2.heap.size, 4, none⟩ = some (.int .u32 E.sv) := by simp
      have f5 : (w2.alloc (.cells #[.int .i64 E.r, .int .u32 E.v, .int .u32 E.a, .int .i64 E.s, .int .u32 E.sv, .bool E.lv, .int .u32 E.to] 110)).cell? ⟨w2.heap.size, 5, none⟩ = some (.bool E.lv) := by simp
      have f6 : (w2.alloc (.cells #[.int .i64 E.r, .int .u32 E.v, .int .u32 E.a, .int .i64 E.s, .int .u32 E.sv, .bool E.lv, .int .u32 E.to] 110)).cell? ⟨w2.heap.size, 6, none⟩ = some (.int .u32 E.to) := by simp
      clear hrd hb2 c0 c1 c2 c3 c4 c5 hB1 hsz1 HRD HH
      cases ht : ro.trap with
      | true =>
        go_upto_region 7 with fail
        generalize w2.alloc (.cells #[.int .i64 E.r, .int .u32 E.v, .int .u32 E.a, .int .i64 E.s, .int .u32 E.sv, .bool E.lv, .int .u32 E.to] 110) = W3 at *
        have q0 := (hB3.out.cell (p := ⟨w.heap.size, 0, none⟩) hnr).trans r0
        have q1 := (hB3.out.cell (p := ⟨w.heap.size, 1, none⟩) hnr).trans r1
        have qf : ∀ k, W3.frozen? ⟨w.heap.size, k, none⟩ = false := fun k => (hB3.out.frozen (p := ⟨w.heap.size, k, none⟩) hnr).trans (rf k)
        have hq3 : w.heap.size < W3.heap.size := by have := hB3.out.size; omega
        refine wp_region_phase 4 [(0, 0), (1, 1), (2, 0), (3, 0), (4, 2)] (fun W => W.cell? ⟨wr.heap.size, 5, none⟩ = some (.int .i64 o.t)) (by kernel_rfl) (by kernel_rfl) (fun _ _ _ d _ h => by cases d <;> exact h) j5 ?_
        refine wpPlanZ_free (by rfl) (by rfl) (fun W => by (go_simp; try with_reducible rfl)) (fun K hK => ?_); go_simp; refine hK _ ?_; clear hK K
        refine wpPlanZ_quiet (by rfl) (by rfl) (fun W hW => by (go_simp; try with_reducible rfl)) (fun K hK => ?_); go_simp; refine hK _ ?_; clear hK K
        refine wpPlanZ_free (by rfl) (by rfl) (fun W => by (go_simp; try with_reducible rfl)) (fun K hK => ?_); go_simp; refine hK _ ?_; clear hK K
        refine wpPlanZ_free (by rfl) (by rfl) (fun W => by (go_simp; try with_reducible rfl)) (fun K hK => ?_); go_simp; refine hK _ ?_; clear hK K
        refine wpPlanZ_serial (by rfl) (by rfl) (fun K hK => ?_)
        go_simp
        refine hK _ _ (fun h => absurd h (by decide)) ?_
        clear hK K
        refine wpPlanZ_nil ?_
        obtain ⟨g0, g1⟩ := end_putG q0 q1 (.bool true) (.int .i64 o.t)
        go_wp2
        refine bodyPost_ret (results_tmp_cellG (A := ⟨w.heap.size, 0, none⟩) rfl _ _ _ rfl (end_loadG ((cell_drewG _ _).trans g0) ((cell_drewG _ _).trans g1))) rfl ?_
        rw [HTT.out ht]
        refine ⟨rfl, ?_⟩
        have hBf : Below w.heap.size w W3 := hBw.out.trans (hB3.out.mono hBw.out.size)
        exact ((hBf.setCell (p := ⟨w.heap.size, 0, none⟩) (Nat.le_refl _) _).setCell (p := ⟨w.heap.size, 1, none⟩) (Nat.le_refl _) _).drew
      | false =>
        have hEE := hE ht
        have HN := HNX.out ht
        have HNH : Hid (∀ q ∈ row.take (j + 1), (resZ wt X M q).trap = false) := HN
        have HS2 : Hid (efL (efs wt X M (row.take (j + 1))) = efL (efs wt X M (row.take j)) ++ (efA E).toList) := by show _ = _; rw [HSN.out, hEE]
        clear hE hEE HN HNX HTT HSN
        go_upto_region 8 with fail
        generalize hWW : w2.alloc (.cells #[.int .i64 E.r, .int .u32 E.v, .int .u32 E.a, .int .i64 E.s, .int .u32 E.sv, .bool E.lv, .int .u32 E.to] 110) = W3 at *
        have hsz3 : W3.heap.size = w2.heap.size + 1 := by rw [← hWW, World.size_alloc]
        clear hWW
        have hnews : ∀ (k : Nat) (u : Value), (efA E).toList[k]? = some u → (W3.alloc (.cells #[.int .i64 E.r, .int .u32 E.v, .int .u32 E.a, .int .i64 E.s, .int .u32 E.sv, .bool E.lv, .int .u32 E.to] 110)).cell? ((⟨W3.heap.size, 0, none⟩ : Addr).add k) = some u := by
          intro k u hk
          rw [add_lit, cell_of_row _ _ _ _ _ _ (heap_alloc_new W3 _)]
          rw [← Array.getElem?_toList]; exact hk
        rw [hsz3] at hnews
        have HOW3 : Hid ((W3.alloc (.cells #[.int .i64 E.r, .int .u32 E.v, .int .u32 E.a, .int .i64 E.s, .int .u32 E.sv, .bool E.lv, .int .u32 E.to] 110)).ownsRow (w.heap.size + 1) 110 7 u6 j (efL (efs wt X M (row.take j)))) := World.ownsRow.alloc (owns_blocks HOW.out (fun k hk => hB3.out.block k (own_at HOW.out k hk).1)) _
        have hsz4 : (W3.alloc (.cells #[.int .i64 E.r, .int .u32 E.v, .int .u32 E.a, .int .i64 E.s, .int .u32 E.sv, .bool E.lv, .int .u32 E.to] 110)).heap.size = w2.heap.size + 2 := by simp [hsz3]
        have hB4 : Hid (Below wr.heap.size wr (W3.alloc (.cells #[.int .i64 E.r, .int .u32 E.v, .int .u32 E.a, .int .i64 E.s, .int .u32 E.sv, .bool E.lv, .int .u32 E.to] 110))) := hB3.out.alloc (by omega) _
        go_wp2_with (at_builtin; refine wpList_append_moved rfl _ _ 152 rfl (w.heap.size + 1) 110 i0 (.agg #[.int .i64 0, .int .u32 0, .int .u32 0, .int .i64 0, .int .u32 0, .bool false, .int .u32 0]) 7 48 Tryz.underlying152 hi hz0 hz1 hz2 rfl (by decide) u6 j (efL (efs wt X M (row.take j))) rfl HOW3.out ⟨w2.heap.size + 1, 0, none⟩ 1 1 (efA E).toList rfl rfl hnews (efA_one E) (by unfold maxLen; omega) (by omega) (by omega) ?_; intro v4 w4 ho4 hg4 hm4)
        have K1 : Hid (w4.ownsRow (w.heap.size + 1) 110 7 v4 (j + 1) (efL (efs wt X M (row.take (j + 1))))) := by rw [HS2.out]; exact ho4
        have K2 : Hid (Below (w.heap.size + 1) V w4) := (HB.out.trans (hB4.out.mono (by omega))).grown hg4 (by omega) (fun k hk => (own_at HOW3.out k hk).2)
        clear ho4 hg4 hm4 hnews HOW3
        go_roundw
        case rel => exact ⟨j + 1, by omega, by go_num, K1.out, HNH.out, K2.out⟩
        case measure => simp [intOf]; omega
    · obtain rfl : j = row.length := by omega
      have HTN : Hid (tz = none) := by
        show _ = _
        rw [← HTZ.out]
        exact trapZ_none (fun o ho => HNT.out o (by rw [List.take_length]; exact ho))
      have HO2 : Hid (wr.ownsRow (w.heap.size + 1) 110 7 u6 (efs wt X M row).length (efL (efs wt X M row))) := by
        have := HOW.out
        rw [List.take_length] at this
        unfold efs at this ⊢
        rw [List.length_map]; exact this
      clear HOW HH HRD
      go_wp2
      obtain ⟨g0, g1⟩ := end_putG r0 r1 (.bool false) (.int .i64 0)
      refine bodyPost_ret (results_tmp_cellG (A := ⟨w.heap.size, 0, none⟩) rfl _ _ _ rfl (end_loadG g0 g1)) rfl ?_
      rw [HTN.out]
      refine ⟨_, rfl, ?_, (hBw.out.setCell (p := ⟨w.heap.size, 0, none⟩) (Nat.le_refl _) _).setCell (p := ⟨w.heap.size, 1, none⟩) (Nat.le_refl _) _⟩
      exact owns_blocks HO2.out (fun k hk => by
        have := (own_at HO2.out k hk).2
        exact (Below.heap_setCell _ ⟨w.heap.size, 1, none⟩ _ k (by show k ≠ w.heap.size; omega)).trans (Below.heap_setCell _ ⟨w.heap.size, 0, none⟩ _ k (by show k ≠ w.heap.size; omega)))
end
end Go.Proofs.YtjkencgcdlfjhaaGreatDoor
/-
  Package host: write.
-/
namespace Go.Proofs.YtjkencgcdlfjhaaGreatDoor
open Go.RowKit Go.Maps
open Num
set_option linter.unusedVariables false
theorem Kx.transM {w w1 w2 : World} {mb : Nat} {vi vj : Value} (h : Kx w w1 mb vi) (hm : Moved w vi vj) (g : Kx w1 w2 mb vj) : Kx w w2 mb vi :=
  ⟨g.os.trans h.os, g.tape.trans h.tape, g.output.trans h.output, Nat.le_trans h.size g.size, fun k hk k1 k2 => (g.block k (Nat.lt_of_lt_of_le hk h.size) k1 (fun e => by
    rcases hm k e with e' | e'
    · exact k2 e'
    · omega)).trans (h.block k hk k1 k2)⟩
theorem Moved.trans {w w1 : World} {vi vj vk : Value} (h : Moved w vi vj) (g : Moved w1 vj vk) (hs : w.heap.size ≤ w1.heap.size) : Moved w vi vk := by
  intro k hk
  rcases g k hk with e | e
  · exact h k e
  · exact .inr (by omega)
/-- where it leaves for -/
def toV (lv : Int) : Int := if lv < 0 then 0 else lv
section
variable {w : World} {base mb stb sb bp bw bh N : Nat} {X : Nat → Int} {p : List Pq} {vi : Value} {m : Nat → Int} {wt ht : Int → Bool}
theorem ef_cells {w : World} {base : Nat} {v : Value} {l : List Ef} (h : w.ownsRow base 110 7 v l.length (efL l)) : ∃ ao cap, v = .slice ao l.length cap ∧ (0 < l.length → ∃ g, ao = some ⟨g, 0, none⟩ ∧ v.ownBlock = some g ∧ g < w.heap.size ∧ ∀ (i : Nat) (r : Ef), l[i]? = some r → ∀ j u, (efA r).toList[j]? = some u → w.cell? ⟨g, i * 7 + j, none⟩ = some u) := by
  obtain ⟨h1, h2⟩ := h
  rcases h2 with ⟨hv, hn⟩ | ⟨g, cap, cur, hv, hb, hg, r1, r2, r3, r4⟩
  · refine ⟨none, 0, by rw [hv, hn], fun hp => by omega⟩
  · refine ⟨_, cap, hv, fun _ => ⟨g, rfl, by rw [hv]; rfl, (Array.getElem?_eq_some_iff.1 hg).1, fun i r hi j u hj => ?_⟩⟩
    rw [cell_of_row _ _ _ _ _ _ hg]
    have hil : i < l.length := (List.getElem?_eq_some_iff.1 hi).1
    have hj7 : j < 7 := (List.getElem?_eq_some_iff.1 hj).1
    have : (cur.toList.take (l.length * 7))[i * 7 + j]? = some u := by rw [r4, efL_get l i r j hi hj7]; exact hj
    rw [List.getElem?_take, if_pos (by omega)] at this
    rw [← Array.getElem?_toList]; exact this
set_option maxRecDepth 100000 in
set_option maxHeartbeats 8000000 in
theorem hwrite_any (G : GAt w base mb stb sb X p vi) (mbd : ∀ i, 0 ≤ m i ∧ m i < 4294967296) {row : List Opx} (hp : p.length + row.length ≤ 1000) (many : Int) (hw : ∀ o ∈ row, o.ok ∧ opE o many = 0) (hnt : ∀ o ∈ row, (resZ wt X (vw m (pqs p)) o).trap = false) {b2 : Nat} {u : Value} (hO : w.ownsRow b2 110 7 u (efs wt X (vw m (pqs p)) row).length (efL (efs wt X (vw m (pqs p)) row))) (hd : ∀ k, u.ownBlock = some k → k ≠ mb ∧ vi.ownBlock ≠ some k) (hwt : ∀ q ∈ pqs p, wt (q.a / 256) = false) :
    Calls Tryz.prog 75 #[.pointer (some ⟨mb, 0, none⟩), u] w fun e w' => e = .returned (.tuple #[.int .u32 (toV (rowZ wt X (vw m (pqs p)) row).lv), .bool (decide (0 ≤ (rowZ wt X (vw m (pqs p)) row).lv))]) ∧ ∃ p' vi', vw m (pqs p') = (rowZ wt X (vw m (pqs p)) row).m ∧ p'.length ≤ p.length + row.length ∧ (∀ q ∈ pqs p', wt (q.a / 256) = false) ∧ GAt w' base mb stb sb (rowZ wt X (vw m (pqs p)) row).x p' vi' ∧ Moved w vi vi' ∧ Kx w w' mb vi := by
  have hMb := vw_bd mbd (pqs p) (pq_ok p)
  have hXb : ∀ i, i < 64 → 0 ≤ X i ∧ X i < 4294967296 := fun i _ => G.xb i
  obtain ⟨M, hM⟩ : ∃ M, vw m (pqs p) = M := ⟨_, rfl⟩
  have HM0 : Hid (vw m (pqs p) = M) := hM
  rw [hM] at hMb hnt hO ⊢
  have HEO : Hid (∀ o ∈ row, EfOk wt o (resZ wt X M o) (efO o (resZ wt X M o))) := fun o ho => efOk (hw o ho).2 (hw o ho).1 hXb hMb (hnt o ho)
  have HAB : Hid (∀ o ∈ row, u32 (resZ wt X M o).a) := fun o ho => (resZ_bd (wt := wt) (hw o ho).1 (hw o ho).2 hXb hMb).2
  have hel : (efs wt X M row).length = row.length := by unfold efs; rw [List.length_map]
  obtain ⟨ao, cap, rfl, hcs⟩ := ef_cells hO
  have HCS : Hid (0 < (efs wt X M row).length → ∃ g, ao = some ⟨g, 0, none⟩ ∧ (Value.slice ao (efs wt X M row).length cap).ownBlock = some g ∧ g < w.heap.size ∧ ∀ (i : Nat) (r : Ef), (efs wt X M row)[i]? = some r → ∀ j u, (efA r).toList[j]? = some u → w.cell? ⟨g, i * 7 + j, none⟩ = some u) := hcs
  have HD : Hid (∀ k, (Value.slice ao (efs wt X M row).length cap).ownBlock = some k → k ≠ mb ∧ vi.ownBlock ≠ some k) := hd
  have HG : Hid (GAt w base mb stb sb X p vi) := G
  have HWT : Hid (∀ q ∈ pqs p, wt (q.a / 256) = false) := hwt
  have hmw := G.lt
  obtain ⟨Zf, hZf⟩ : ∃ Zf, rowZ wt X M row = Zf := ⟨_, rfl⟩
  have HZF : Hid (rowZ wt X M row = Zf) := hZf
  rw [hZf]
  have hpl : p.length ≤ 1000 := by omega
  rw [hel] at HCS HD ⊢
  clear hM hMb hXb hw hnt hO hcs hd G hwt hZf hel
  go_enter Tryz.func75, Tryz.ntmps75
  go_wp2
  go_loopw [4, 5, 12] (fun to lv i wr => ∃ (j : Nat) (Z : Mz) (pj : List Pq) (vj : Value), j ≤ row.length ∧ i = .int .i64 j ∧ Hid (rowZ wt X M (row.take j) = Z) ∧ to = .int .u32 (toV Z.lv) ∧ lv = .bool (decide (0 ≤ Z.lv)) ∧ Hid (vw m (pqs pj) = Z.m ∧ pj.length ≤ p.length + j ∧ (∀ q ∈ pqs pj, wt (q.a / 256) = false)) ∧ GAt wr base mb stb sb Z.x pj vj ∧ Moved w vi vj ∧ Kx w wr mb vi) (fun _ _ i _ => row.length - (intOf i).toNat)
  case atStart => exact ⟨0, ⟨X, M, -1⟩, p, vi, Nat.zero_le _, rfl, rfl, rfl, rfl, ⟨HM0.out, by omega, HWT.out⟩, HG.out, Moved.refl _ _, ⟨rfl, rfl, rfl, Nat.le_refl _, fun _ _ _ _ => rfl⟩⟩
  case round =>
    obtain ⟨j, Z, pj, vj, hj, rfl, HZ, rfl, rfl, HP, hG, hM, hK⟩ := hrel
    have HGJ : Hid (GAt wr base mb stb sb Z.x pj vj) := hG
    have HMJ : Hid (Moved w vi vj) := hM
    have HKJ : Hid (Kx w wr mb vi) := hK
    clear hG hM hK
    by_cases hlt : j < row.length
    · obtain ⟨o, ho⟩ : ∃ o, row[j]? = some o := ⟨_, List.getElem?_eq_getElem hlt⟩
      have hom := List.mem_of_getElem? ho
      obtain ⟨g, rfl, hob, hgl, hcell⟩ := HCS.out (by omega)
      obtain ⟨d1, d2⟩ := HD.out g hob
      have hblk : wr.heap[g]? = w.heap[g]? := HKJ.out.block g hgl d1 d2
      have hEo := HEO.out o hom
      have hAb := HAB.out o hom
      have hcl := hcell j (efO o (resZ wt X M o)) (by unfold efs; rw [List.getElem?_map, ho]; rfl)
      have HZN : Hid (rowZ wt X M (row.take (j + 1)) = appZ Z o (resZ wt X M o)) := by show _ = _; rw [take_snoc' ho, rowZ_snoc, HZ.out]
      generalize resZ wt X M o = ro at *
      generalize efO o ro = E at *
      have cc : ∀ (k : Nat) (u : Value), (efA E).toList[k]? = some u → wr.cell? ⟨g, j * 7 + k, none⟩ = some u := fun k u hk => (World.cell?_of_block (a := ⟨g, j * 7 + k, none⟩) hblk).trans (hcl k u hk)
      have y0 : wr.cell? ⟨g, j * 7, none⟩ = some (.int .i64 E.r) := cc 0 _ rfl
      have y1 := cc 1 _ rfl
      have y2 := cc 2 _ rfl
      have y3 := cc 3 _ rfl
      have y4 := cc 4 _ rfl
      have y5 := cc 5 _ rfl
      have y6 := cc 6 _ rfl
      have zg := World.block_lt_of_cell? _ _ y0
      have hlt' : (j : Int) < row.length := by omega
      have HEH : Hid (EfOk wt o ro E) := hEo
      have hdo := do_any (HGJ.out.opened (.cells #[.int .i64 E.r, .int .u32 E.v, .int .u32 E.a, .int .i64 E.s, .int .u32 E.sv, .bool E.lv, .int .u32 E.to] 110)) (by have := HP.out.2.1; omega) E hEo.r0 hEo.r1 hEo.v hEo.s
      have HKA : Hid (Kx wr (wr.alloc (.cells #[.int .i64 E.r, .int .u32 E.v, .int .u32 E.a, .int .i64 E.s, .int .u32 E.sv, .bool E.lv, .int .u32 E.to] 110)) mb vj) := Kx.alloc _ _ _ _
      unfold efA at hdo
      clear hcl hcell cc hblk hob ho hom hEo HCS HD
      go_upto_region 4 with fail
      have f0 : (wr.alloc (.cells #[.int .i64 E.r, .int .u32 E.v, .int .u32 E.a, .int .i64 E.s, .int .u32 E.sv, .bool E.lv, .int .u32 E.to] 110)).cell? ⟨wr.heap.size, 0, none⟩ = some (.int .i64 E.r) := by simp
      have f1 : (wr.alloc (.cells #[.int .i64 E.r, .int .u32 E.v, .int .u32 E.a, .int .i64 E.s, .int .u32 E.sv, .bool E.lv, .int .u32 E.to] 110)).cell? ⟨wr.heap.size, 1, none⟩ = some (.int .u32 E.v) := by simp
      have f2 : (wr.alloc (.cells #[.int .i64 E.r, .int .u32 E.v, .int .u32 E.a, .int .i64 E.s, .int .u32 E.sv, .bool E.lv, .int .u32 E.to] 110)).cell? ⟨wr.heap.size, 2, none⟩ = some (.int .u32 E.a) := by simp
      have f3 : (wr.alloc (.cells #[.int .i64 E.r, .int .u32 E.v, .int .u32 E.a, .int .i64 E.s, .int .u32 E.sv, .bool E.lv, .int .u32 E.to] 110)).cell? ⟨wr.heap.size, 3, none⟩ = some (.int .i64 E.s) := by simp
      have f4 : (wr.alloc (.cells #[.int .i64 E.r, .int .u32 E.v, .int .u32 E.a, .int .i64 E.s, .int .u32 E.sv, .bool E.lv, .int .u32 E.to] 110)).cell? ⟨wr.heap.size, 4, none⟩ = some (.int .u32 E.sv) := by simp
      have f5 : (wr.alloc (.cells #[.int .i64 E.r, .int .u32 E.v, .int .u32 E.a, .int .i64 E.s, .int .u32 E.sv, .bool E.lv, .int .u32 E.to] 110)).cell? ⟨wr.heap.size, 5, none⟩ = some (.bool E.lv) := by simp
      have f6 : (wr.alloc (.cells #[.int .i64 E.r, .int .u32 E.v, .int .u32 E.a, .int .i64 E.s, .int .u32 E.sv, .bool E.lv, .int .u32 E.to] 110)).cell? ⟨wr.heap.size, 6, none⟩ = some (.int .u32 E.to) := by simp
      have hszA : wr.heap.size ≤ (wr.alloc (.cells #[.int .i64 E.r, .int .u32 E.v, .int .u32 E.a, .int .i64 E.s, .int .u32 E.sv, .bool E.lv, .int .u32 E.to] 110)).heap.size := by simp
      generalize wr.alloc (.cells #[.int .i64 E.r, .int .u32 E.v, .int .u32 E.a, .int .i64 E.s, .int .u32 E.sv, .bool E.lv, .int .u32 E.to] 110) = A at *
      clear y0 y1 y2 y3 y4 y5 y6 zg
      go_wp2_with fail
      refine hdo.mono ?_
      rintro e w2 ⟨rfl, p2, v2, hpq, hpl2, hG2, hM2, hK2⟩
      have hKA2 : Kx wr w2 mb vj := HKA.out.trans hK2
      have HG2 : Hid (GAt w2 base mb stb sb (appZ Z o ro).x p2 v2) := by
        have := HEH.out.x Z.x Z.m Z.lv
        rw [← this]; exact hG2
      have HM2 : Hid (Moved w vi v2) := HMJ.out.trans (w1 := A) hM2 (by have := HKJ.out.size; omega)
      have HK2 : Hid (Kx w w2 mb vi) := HKJ.out.transM HMJ.out hKA2
      have HP2 : Hid (vw m (pqs p2) = (appZ Z o ro).m ∧ p2.length ≤ p.length + (j + 1) ∧ (∀ q ∈ pqs p2, wt (q.a / 256) = false)) := by
        obtain ⟨a1, a2, a3⟩ := HP.out
        refine ⟨?_, by omega, fun q hq => ?_⟩
        · rw [hpq, HEH.out.m m (pqs pj) Z.x Z.lv, a1]
        · rw [hpq] at hq
          unfold doP at hq
          split at hq
          · exact a3 q hq
          · rename_i hs
            rcases List.mem_append.1 hq with h | h
            · exact a3 q h
            · rw [List.mem_singleton.1 h]; exact HEH.out.w hs
      have HLV : Hid ((appZ Z o ro).lv = if ro.leave = true then ro.a else Z.lv) := rfl
      clear hdo hK2 hG2 hM2 hKA2 f0 f1 f2 f3 f4 f5 f6 hpq hpl2 HP HGJ HKJ HMJ HKA
      cases hlv : ro.leave with
      | true =>
        have e1 : E.lv = true := HEH.out.lv.trans hlv
        have e2 : E.to = ro.a := HEH.out.to hlv
        have HL2 : Hid ((appZ Z o ro).lv = ro.a) := by show _ = _; rw [HLV.out, hlv]; rfl
        rw [e1, e2]
        clear e1 e2 HLV
        go_wp2
        go_roundw
        case rel => exact ⟨j + 1, appZ Z o ro, p2, v2, by omega, by go_num, HZN.out, by rw [HL2.out]; unfold toV; rw [if_neg (by have := hAb.1; omega)], by rw [HL2.out, decide_eq_true hAb.1], HP2.out, HG2.out, HM2.out, HK2.out⟩
        case measure => simp [intOf]; omega
      | false =>
        have e1 : E.lv = false := HEH.out.lv.trans hlv
        have HL2 : Hid ((appZ Z o ro).lv = Z.lv) := by show _ = _; rw [HLV.out, hlv]; rfl
        rw [e1]
        clear e1 HLV
        go_wp2
        go_roundw
        case rel => exact ⟨j + 1, appZ Z o ro, p2, v2, by omega, by go_num, HZN.out, by rw [HL2.out], by rw [HL2.out], HP2.out, HG2.out, HM2.out, HK2.out⟩
        case measure => simp [intOf]; omega
    · obtain rfl : j = row.length := by omega
      obtain rfl : Zf = Z := by rw [← HZF.out, ← HZ.out, List.take_length]
      clear HCS HD
      go_wp2
      go_ret2
      obtain ⟨a1, a2, a3⟩ := HP.out
      first | exact ⟨rfl, pj, vj, a1, a2, a3, HGJ.out, HMJ.out, HKJ.out⟩ | exact ⟨rfl, pj, a1, a2, a3, vj, HGJ.out, HMJ.out, HKJ.out⟩
end
end Go.Proofs.YtjkencgcdlfjhaaGreatDoor
