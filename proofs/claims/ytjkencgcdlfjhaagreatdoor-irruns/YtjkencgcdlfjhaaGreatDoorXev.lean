import Derived.Test.YtjkencgcdlfjhaaGreatDoorXtra
/-
  Package ir: Eval.
-/
namespace Go.Proofs.YtjkencgcdlfjhaaGreatDoor
open Go.RowKit Go.Maps
open Num
set_option linter.unusedVariables false
section
variable {w : World} {stb sb bp bw bh N : Nat} {m : Nat → Int} {wt ht : Int → Bool}
set_option maxRecDepth 100000 in
set_option maxHeartbeats 16000000 in
theorem ieval_ok (pe : Nat → Addr) (E : Eg pe w) (R : RamIs w sb bp bw bh N m wt ht) (hN : N ≤ 900000) {S : St} (ok : S.ok) (hS : StRow w stb S) (n1 : sb ≠ stb) (n2 : bp ≠ stb) (n3 : bw ≠ stb) (n4 : bh ≠ stb) (z1 : sb < w.heap.size) (z2 : bp < w.heap.size) (z3 : bw < w.heap.size) (z4 : bh < w.heap.size) {v : Value} {l : List Opx} (A : OpsIn w v l) (pc many : Int) (p0 : 0 ≤ pc) (p1 : pc < 4294967296) (m0 : -9223372036854775808 ≤ many) (m1 : many ≤ 9223372036854775807) (hf : codeF many l = (0, -1)) (hsl : S.sl = false) (hpc : S.pc = pc) (hnx : S.nx = lo (pc + 4)) (c0 : 0 ≤ S.ct) (c1 : S.ct ≤ 1152921504606846976) :
    Calls Tryz.prog 16 #[.agg #[.int .u32 pc, .int .i64 many, v], .pointer (some ⟨stb, 0, none⟩), .pointer (some ⟨sb, 0, none⟩)] w fun e w' => HPost w stb sb bp bw bh wt ht S many (run1 wt l (begX S) m) e w' := by
  have WL := codeF_well.1 hf
  have HOK : Hid (∀ o ∈ l, o.ok ∧ opE o many = 0) := fun o ho => ⟨A.ok o ho, wellL_mem WL.ops o ho⟩
  obtain ⟨ra, rc, hv, hcap, hh⟩ := A.sh
  subst hv
  have B0 : Below w.heap.size w ((w.alloc (.cells #[.int .u32 pc, .int .i64 many, .slice ra l.length rc] 35)).alloc (.cells #[.bool false, .int .i64 0] 45)) := ((Below.refl _ _).alloc (Nat.le_refl _) _).alloc (by simp) _
  have k0 : ((w.alloc (.cells #[.int .u32 pc, .int .i64 many, .slice ra l.length rc] 35)).alloc (.cells #[.bool false, .int .i64 0] 45)).cell? ⟨w.heap.size, 0, none⟩ = some (.int .u32 pc) := by simp
  have k1 : ((w.alloc (.cells #[.int .u32 pc, .int .i64 many, .slice ra l.length rc] 35)).alloc (.cells #[.bool false, .int .i64 0] 45)).cell? ⟨w.heap.size, 1, none⟩ = some (.int .i64 many) := by simp
  have k2 : ((w.alloc (.cells #[.int .u32 pc, .int .i64 many, .slice ra l.length rc] 35)).alloc (.cells #[.bool false, .int .i64 0] 45)).cell? ⟨w.heap.size, 2, none⟩ = some (.slice ra l.length rc) := by simp
  have e0 : ((w.alloc (.cells #[.int .u32 pc, .int .i64 many, .slice ra l.length rc] 35)).alloc (.cells #[.bool false, .int .i64 0] 45)).cell? ⟨w.heap.size + 1, 0, none⟩ = some (.bool false) := by simp
  have e1 : ((w.alloc (.cells #[.int .u32 pc, .int .i64 many, .slice ra l.length rc] 35)).alloc (.cells #[.bool false, .int .i64 0] 45)).cell? ⟨w.heap.size + 1, 1, none⟩ = some (.int .i64 0) := by simp
  have ef : ∀ j, ((w.alloc (.cells #[.int .u32 pc, .int .i64 many, .slice ra l.length rc] 35)).alloc (.cells #[.bool false, .int .i64 0] 45)).frozen? ⟨w.heap.size + 1, j, none⟩ = false := fun j => by
    rw [show w.heap.size + 1 = (w.alloc (.cells #[.int .u32 pc, .int .i64 many, .slice ra l.length rc] 35)).heap.size by simp]; exact World.frozen?_alloc_at _ _ _ _ rfl
  have hsz0 : ((w.alloc (.cells #[.int .u32 pc, .int .i64 many, .slice ra l.length rc] 35)).alloc (.cells #[.bool false, .int .i64 0] 45)).heap.size = w.heap.size + 2 := by simp
  have hlen := WL.len
  have hck := ccheck_ok pe (E.stays B0) (A.stays B0) (by omega) pc many m0 m1 hf
  have HE : Hid (∀ W, Below w.heap.size w W → Eg pe W) := fun W hW => E.stays hW
  have HR : Hid (∀ W, Below w.heap.size w W → RamIs W sb bp bw bh N m wt ht) := fun W hW => R.stays hW (Nat.le_refl _)
  have HS : Hid (∀ W, Below w.heap.size w W → StRow W stb S) := fun W hW => hS.stays hW
  have HH : Hid (0 < l.length → ∃ b off : Nat, ra = some ⟨b, off, none⟩ ∧ ∀ (i : Nat) (o : Opx), l[i]? = some o → ∀ (j : Nat) (u : Value), (opC o)[j]? = some u → w.cell? ⟨b, off + i * 6 + j, none⟩ = some u) := hh
  have HXB : Hid (∀ j, u32 (begX S j)) := begX_u ok
  have hstl := hS.lt
  have hmbd := R.mb
  have HMB : Hid (∀ i, 0 ≤ m i ∧ m i < 4294967296) := hmbd
  have hB00 : Hid (Below w.heap.size w ((w.alloc (.cells #[.int .u32 pc, .int .i64 many, .slice ra l.length rc] 35)).alloc (.cells #[.bool false, .int .i64 0] 45))) := B0
  have HBG : Hid (S.sl = false ∧ S.pc = pc ∧ S.nx = lo (pc + 4)) := ⟨hsl, hpc, hnx⟩
  have m0' := WL.m0
  have m1' := WL.m1
  obtain ⟨Z, hZ⟩ : ∃ Z, run1 wt l (begX S) m = Z := ⟨_, rfl⟩
  have HZ : Hid (run1 wt l (begX S) m = Z) := hZ
  rw [hZ]
  clear hZ hf WL E R hS A hsl hpc hnx hh ok B0 hmbd hcap
  go_enter Tryz.func16, Tryz.ntmps16
  go_upto_region 3 with fail
  generalize ((w.alloc (.cells #[.int .u32 pc, .int .i64 many, .slice ra l.length rc] 35)).alloc (.cells #[.bool false, .int .i64 0] 45)) = V at *
  go_wp2_with fail
  refine hck.mono ?_
  rintro e w1 ⟨rfl, hb1⟩
  have hBw1 : Hid (Below w.heap.size w w1) := hB00.out.trans (hb1.mono (by omega))
  have q0 := (hb1.cell (p := ⟨w.heap.size, 0, none⟩) (show w.heap.size < V.heap.size by omega)).trans k0
  have q1 := (hb1.cell (p := ⟨w.heap.size, 1, none⟩) (show w.heap.size < V.heap.size by omega)).trans k1
  have q2 := (hb1.cell (p := ⟨w.heap.size, 2, none⟩) (show w.heap.size < V.heap.size by omega)).trans k2
  have qe0 := (hb1.cell (p := ⟨w.heap.size + 1, 0, none⟩) (show w.heap.size + 1 < V.heap.size by omega)).trans e0
  have qe1 := (hb1.cell (p := ⟨w.heap.size + 1, 1, none⟩) (show w.heap.size + 1 < V.heap.size by omega)).trans e1
  have qef : ∀ j, w1.frozen? ⟨w.heap.size + 1, j, none⟩ = false := fun j => (hb1.frozen (p := ⟨w.heap.size + 1, j, none⟩) (show w.heap.size + 1 < V.heap.size by omega)).trans (ef j)
  have hsz1 : w.heap.size + 2 ≤ w1.heap.size := by have := hb1.size; omega
  clear hck hb1 k0 k1 k2 e0 e1 ef hsz0 hB00
  have hbg := begin_ok (sb := sb) (HS.out w1 hBw1.out) pc p0 p1 HBG.out.1 HBG.out.2.1 HBG.out.2.2
  have hw0 : w.heap.size < w1.heap.size := by omega
  go_wp2_with fail
  refine hbg.mono ?_
  rintro e w2 ⟨mb, rfl, hmb, hGR, hb2⟩
  generalize hbase : w1.heap.size = base at *
  have hBB : Hid (Below base w1 w2) := hb2
  have HG2 : Hid (GAt w2 base mb stb sb (begX S) [] (.slice none 0 0)) := hGR.gat hmb HXB.out (by have := hb2.size; omega)
  have HCX : Hid (∀ W, Below base w1 W → Below w.heap.size w W) := fun W hW => hBw1.out.trans (hW.mono (by omega))
  have HC : Hid (∀ W, Below base w1 W → W.cell? ⟨w.heap.size, 1, none⟩ = some (.int .i64 many) ∧ W.cell? ⟨w.heap.size, 2, none⟩ = some (.slice ra l.length rc) ∧ W.cell? ⟨w.heap.size + 1, 0, none⟩ = some (.bool false) ∧ W.cell? ⟨w.heap.size + 1, 1, none⟩ = some (.int .i64 0) ∧ (∀ j, W.frozen? ⟨w.heap.size + 1, j, none⟩ = false) ∧ base ≤ W.heap.size) := fun W hW => ⟨(hW.cell (p := ⟨w.heap.size, 1, none⟩) hw0).trans q1, (hW.cell (p := ⟨w.heap.size, 2, none⟩) hw0).trans q2, (hW.cell (p := ⟨w.heap.size + 1, 0, none⟩) (show w.heap.size + 1 < base by omega)).trans qe0, (hW.cell (p := ⟨w.heap.size + 1, 1, none⟩) (show w.heap.size + 1 < base by omega)).trans qe1, fun j => (hW.frozen (p := ⟨w.heap.size + 1, j, none⟩) (show w.heap.size + 1 < base by omega)).trans (qef j), by have := hW.size; omega⟩
  clear hbg hGR hb2 q0 q1 q2 qe0 qe1 qef
  obtain ⟨d1, d2, d3, d4, d5, d6⟩ := HC.out w2 hBB.out
  have d7 := World.block_lt_of_cell? _ _ d2
  go_wp2
  clear d1 d2 d3 d4 d5 d6 d7
  go_loopw [46] (fun i wr => ∃ (j : Nat) (x m' : Nat → Int) (pj : List Pq) (vj : Value), j ≤ l.length ∧ i = .int .i64 j ∧ Hid (vw m (pqs pj) = m' ∧ pj.length ≤ j ∧ (∀ q ∈ pqs pj, wt (q.a / 256) = false)) ∧ Hid (run1 wt (l.drop j) x m' = Z) ∧ GAt wr base mb stb sb x pj vj ∧ Below base w1 wr) (fun i _ => l.length - (intOf i).toNat)
  case atStart => exact ⟨0, begX S, m, [], .slice none 0 0, Nat.zero_le _, rfl, ⟨rfl, by simp, by intro q hq; cases hq⟩, HZ.out, HG2.out, hBB.out⟩
  case round =>
    obtain ⟨j, x, m', pj, vj, hj, rfl, HP, HZJ, hG, hB⟩ := hrel
    have HGJ : Hid (GAt wr base mb stb sb x pj vj) := hG
    have HBJ : Hid (Below base w1 wr) := hB
    obtain ⟨d1, d2, d3, d4, d5, d6⟩ := HC.out wr hB
    have d7 := World.block_lt_of_cell? _ _ d2
    have d8 := World.block_lt_of_cell? _ _ d3
    clear hG hB HG2 hBB
    by_cases hlt : j < l.length
    · obtain ⟨o, ho⟩ : ∃ q, l[j]? = some q := ⟨_, List.getElem?_eq_getElem hlt⟩
      have hom := List.mem_of_getElem? ho
      obtain ⟨hok, hop⟩ := HOK.out o hom
      obtain ⟨b, off, rfl, hcell⟩ := HH.out (by omega)
      obtain ⟨x0, x1, x2, x3, x4, x5⟩ := op_cells (w := wr) (fun k u hk => by rw [(HCX.out wr HBJ.out).cell (World.block_lt_of_cell? _ _ (hcell j o ho k u hk))]; exact hcell j o ho k u hk)
      have zb := World.block_lt_of_cell? _ _ x0
      have hlt' : (j : Int) < l.length := by omega
      have HDR : Hid (l.drop j = o :: l.drop (j + 1)) := by
        show _ = _
        rw [List.drop_eq_getElem_cons hlt]
        have := (List.getElem?_eq_some_iff.1 ho).2
        rw [this]
      have hpl : pj.length ≤ 1000 := by have := HP.out.2.1; omega
      have hB1 : Hid (Below wr.heap.size wr (wr.alloc (.cells #[.string o.s, .int .i64 o.d, .int .i64 o.a, .int .i64 o.b, .int .u32 o.i, .int .i64 o.t] 92))) := (Below.refl _ _).alloc (Nat.le_refl _) _
      have hBA : Below base w1 (wr.alloc (.cells #[.string o.s, .int .i64 o.d, .int .i64 o.a, .int .i64 o.b, .int .u32 o.i, .int .i64 o.t] 92)) := HBJ.out.trans (hB1.out.mono d6)
      have hrd := read_any pe (HE.out _ (HCX.out _ hBA)) (HR.out _ (HCX.out _ hBA)) (HGJ.out.opened (.cells #[.string o.s, .int .i64 o.d, .int .i64 o.a, .int .i64 o.b, .int .u32 o.i, .int .i64 o.t] 92)) hpl o hok many hop
      rw [HP.out.1] at hrd
      have c5 : (wr.alloc (.cells #[.string o.s, .int .i64 o.d, .int .i64 o.a, .int .i64 o.b, .int .u32 o.i, .int .i64 o.t] 92)).cell? ⟨wr.heap.size, 5, none⟩ = some (.int .i64 o.t) := by simp
      have c0' : (wr.alloc (.cells #[.string o.s, .int .i64 o.d, .int .i64 o.a, .int .i64 o.b, .int .u32 o.i, .int .i64 o.t] 92)).cell? ⟨wr.heap.size, 0, none⟩ = some (.string o.s) := by simp
      have c1' : (wr.alloc (.cells #[.string o.s, .int .i64 o.d, .int .i64 o.a, .int .i64 o.b, .int .u32 o.i, .int .i64 o.t] 92)).cell? ⟨wr.heap.size, 1, none⟩ = some (.int .i64 o.d) := by simp
      have c2 : (wr.alloc (.cells #[.string o.s, .int .i64 o.d, .int .i64 o.a, .int .i64 o.b, .int .u32 o.i, .int .i64 o.t] 92)).cell? ⟨wr.heap.size, 2, none⟩ = some (.int .i64 o.a) := by simp
      have c3 : (wr.alloc (.cells #[.string o.s, .int .i64 o.d, .int .i64 o.a, .int .i64 o.b, .int .u32 o.i, .int .i64 o.t] 92)).cell? ⟨wr.heap.size, 3, none⟩ = some (.int .i64 o.b) := by simp
      have c4 : (wr.alloc (.cells #[.string o.s, .int .i64 o.d, .int .i64 o.a, .int .i64 o.b, .int .u32 o.i, .int .i64 o.t] 92)).cell? ⟨wr.heap.size, 4, none⟩ = some (.int .u32 o.i) := by simp
      have HRC : Hid (run1 wt (o :: l.drop (j + 1)) x m' = if (resZ wt x m' o).trap = true then .trap o.t else if (appZ ⟨x, m', -1⟩ o (resZ wt x m' o)).lv < 0 then run1 wt (l.drop (j + 1)) (appZ ⟨x, m', -1⟩ o (resZ wt x m' o)).x (appZ ⟨x, m', -1⟩ o (resZ wt x m' o)).m else .leave (appZ ⟨x, m', -1⟩ o (resZ wt x m' o))) := run1_cons wt o _ x m'
      have hmb' : ∀ i, 0 ≤ m' i ∧ m' i < 4294967296 := by rw [← HP.out.1]; exact vw_bd HMB.out (pqs pj) (pq_ok pj)
      have HEO : Hid ((resZ wt x m' o).trap = false → EfOk wt o (resZ wt x m' o) (efO o (resZ wt x m' o))) := fun ht => efOk hop hok (fun i _ => HGJ.out.xb i) hmb' ht
      have HAB : Hid (u32 (resZ wt x m' o).a) := (resZ_bd (wt := wt) hok hop (fun i _ => HGJ.out.xb i) hmb').2
      unfold opV at hrd
      generalize resZ wt x m' o = ro at *
      clear hcell ho hom hok hop hmb' hBA HOK HH
      go_upto_region 12 with fail
      generalize hWW : wr.alloc (.cells #[.string o.s, .int .i64 o.d, .int .i64 o.a, .int .i64 o.b, .int .u32 o.i, .int .i64 o.t] 92) = W1 at *
      have hsz1' : W1.heap.size = wr.heap.size + 1 := by rw [← hWW, World.size_alloc]
      clear hWW x0 x1 x2 x3 x4 x5 d1 d2 d7 zb
      go_wp2_with fail
      refine hrd.mono ?_
      rintro e w3 ⟨⟨E, rfl, hE⟩, hb3⟩
      have hBw3 : Hid (Below wr.heap.size wr w3) := hB1.out.trans (hb3.mono (by omega))
      have k5 : w3.cell? ⟨wr.heap.size, 5, none⟩ = some (.int .i64 o.t) := (hb3.cell (p := ⟨wr.heap.size, 5, none⟩) (show wr.heap.size < W1.heap.size by omega)).trans c5
      have hsz3 : wr.heap.size < w3.heap.size := by have := hb3.size; omega
      unfold efA
      have hB3 : Hid (Below wr.heap.size wr (w3.alloc (.cells #[.int .i64 E.r, .int .u32 E.v, .int .u32 E.a, .int .i64 E.s, .int .u32 E.sv, .bool E.lv, .int .u32 E.to] 110))) := hBw3.out.alloc (by omega) _
      have hBB3 : Hid (Below base w1 (w3.alloc (.cells #[.int .i64 E.r, .int .u32 E.v, .int .u32 E.a, .int .i64 E.s, .int .u32 E.sv, .bool E.lv, .int .u32 E.to] 110))) := HBJ.out.trans (hB3.out.mono d6)
      have j5 : (w3.alloc (.cells #[.int .i64 E.r, .int .u32 E.v, .int .u32 E.a, .int .i64 E.s, .int .u32 E.sv, .bool E.lv, .int .u32 E.to] 110)).cell? ⟨wr.heap.size, 5, none⟩ = some (.int .i64 o.t) := (World.grownBy_alloc w3 _ none).cell k5 (by simp)
      have f0 : (w3.alloc (.cells #[.int .i64 E.r, .int .u32 E.v, .int .u32 E.a, .int .i64 E.s, .int .u32 E.sv, .bool E.lv, .int .u32 E.to] 110)).cell? ⟨w3.heap.size, 0, none⟩ = some (.int .i64 E.r) := by simp
      have f1 : (w3.alloc (.cells #[.int .i64 E.r, .int .u32 E.v, .int .u32 E.a, .int .i64 E.s, .int .u32 E.sv, .bool E.lv, .int .u32 E.to] 110)).cell? ⟨w3.heap.size, 1, none⟩ = some (.int .u32 E.v) := by simp
      have f2 : (w3.alloc (.cells #[.int .i64 E.r, .int .u32 E.v, .int .u32 E.a, .int .i64 E.s, .int .u32 E.sv, .bool E.lv, .int .u32 E.to] 110)).cell? ⟨w3.heap.size, 2, none⟩ = some (.int .u32 E.a) := by simp
      have f3 : (w3.alloc (.cells #[.int .i64 E.r, .int .u32 E.v, .int .u32 E.a, .int .i64 E.s, .int .u32 E.sv, .bool E.lv, .int .u32 E.to] 110)).cell? ⟨w3.heap.size, 3, none⟩ = some (.int .i64 E.s) := by simp
      have f4 : (w3.alloc (.cells #[.int .i64 E.r, .int .u32 E.v, .int .u32 E.a, .int .i64 E.s, .int .u32 E.sv, .bool E.lv, .int .u32 E.to] 110)).cell? ⟨w3.heap.size, 4, none⟩ = some (.int .u32 E.sv) := by simp
      have f5 : (w3.alloc (.cells #[.int .i64 E.r, .int .u32 E.v, .int .u32 E.a, .int .i64 E.s, .int .u32 E.sv, .bool E.lv, .int .u32 E.to] 110)).cell? ⟨w3.heap.size, 5, none⟩ = some (.bool E.lv) := by simp
      have f6 : (w3.alloc (.cells #[.int .i64 E.r, .int .u32 E.v, .int .u32 E.a, .int .i64 E.s, .int .u32 E.sv, .bool E.lv, .int .u32 E.to] 110)).cell? ⟨w3.heap.size, 6, none⟩ = some (.int .u32 E.to) := by simp
      have HG3 : Hid (GAt (w3.alloc (.cells #[.int .i64 E.r, .int .u32 E.v, .int .u32 E.a, .int .i64 E.s, .int .u32 E.sv, .bool E.lv, .int .u32 E.to] 110)) base mb stb sb x pj vj) := HGJ.out.stays hB3.out
      clear hrd hb3 c0' c1' c2 c3 c4 c5 hB1 hsz1' d3 d4 d5 d8 k5
      cases htr : ro.trap with
      | true =>
        have HZT : Hid (Z = .trap o.t) := by show _ = _; rw [← HZJ.out, HDR.out, HRC.out, if_pos htr]
        clear f0 f1 f2 f3 f4 f5 f6 hE HRC HEO HAB
        go_upto_region 14 with fail
        generalize w3.alloc (.cells #[.int .i64 E.r, .int .u32 E.v, .int .u32 E.a, .int .i64 E.s, .int .u32 E.sv, .bool E.lv, .int .u32 E.to] 110) = A at *
        obtain ⟨d1, d2, d3, d4, d5, d6⟩ := HC.out A hBB3.out
        have d7 := World.block_lt_of_cell? _ _ d3
        have zg := World.block_lt_of_cell? _ _ j5
        go_wp2
        obtain ⟨j0, j1⟩ := end_putG d3 d4 (.bool true) (.int .i64 o.t)
        refine bodyPost_ret (results_cell1G (A := ⟨w.heap.size + 1, 0, none⟩) rfl _ _ _ rfl (end_loadG j0 j1)) rfl ?_
        rw [HZT.out]
        exact ⟨rfl, ((HCX.out A hBB3.out).setCell (p := ⟨w.heap.size + 1, 0, none⟩) (by show w.heap.size ≤ w.heap.size + 1; omega) _).setCell (p := ⟨w.heap.size + 1, 1, none⟩) (by show w.heap.size ≤ w.heap.size + 1; omega) _⟩
      | false =>
        have hEE := hE htr
        have hEo := HEO.out htr
        rw [← hEE] at hEo
        have HEH : Hid (EfOk wt o ro E) := hEo
        have HWR : Hid (Z = if (appZ ⟨x, m', -1⟩ o ro).lv < 0 then run1 wt (l.drop (j + 1)) (appZ ⟨x, m', -1⟩ o ro).x (appZ ⟨x, m', -1⟩ o ro).m else .leave (appZ ⟨x, m', -1⟩ o ro)) := by show _ = _; rw [← HZJ.out, HDR.out, HRC.out, if_neg (by rw [htr]; decide)]
        have hdo := do_any HG3.out (by have := HP.out.2.1; omega) E hEo.r0 hEo.r1 hEo.v hEo.s
        unfold efA at hdo
        clear hE hEE hEo HRC HEO j5
        go_upto_region 15 with fail
        have zf := World.block_lt_of_cell? _ _ f0
        have hsA : base ≤ (w3.alloc (.cells #[.int .i64 E.r, .int .u32 E.v, .int .u32 E.a, .int .i64 E.s, .int .u32 E.sv, .bool E.lv, .int .u32 E.to] 110)).heap.size := (HC.out _ hBB3.out).2.2.2.2.2
        generalize w3.alloc (.cells #[.int .i64 E.r, .int .u32 E.v, .int .u32 E.a, .int .i64 E.s, .int .u32 E.sv, .bool E.lv, .int .u32 E.to] 110) = A at *
        go_wp2_with fail
        refine hdo.mono ?_
        rintro e w4 ⟨rfl, p4, v4, hpq, hpl4, hG4, hM4, hK4⟩
        have hBB4 : Hid (Below base w1 w4) := Kx.belowB hBB3.out hK4 HG3.out.lb (fun i hi => (HG3.out.blk i hi).2) (by omega)
        have HG4 : Hid (GAt w4 base mb stb sb (appZ ⟨x, m', -1⟩ o ro).x p4 v4) := by
          have := HEH.out.x x m' (-1)
          rw [← this]; exact hG4
        have HP4 : Hid (vw m (pqs p4) = (appZ ⟨x, m', -1⟩ o ro).m ∧ p4.length ≤ j + 1 ∧ (∀ q ∈ pqs p4, wt (q.a / 256) = false)) := by
          obtain ⟨a1, a2, a3⟩ := HP.out
          refine ⟨?_, by omega, fun q hq => ?_⟩
          · rw [hpq, HEH.out.m m (pqs pj) x (-1), a1]
          · rw [hpq] at hq
            unfold doP at hq
            split at hq
            · exact a3 q hq
            · rename_i hs
              rcases List.mem_append.1 hq with h | h
              · exact a3 q h
              · rw [List.mem_singleton.1 h]; exact HEH.out.w hs
        have HLV : Hid ((appZ ⟨x, m', -1⟩ o ro).lv = if ro.leave = true then ro.a else -1) := rfl
        clear hdo hK4 hG4 hM4 f0 f1 f2 f3 f4 f5 f6 hpq hpl4 zf hsA
        generalize appZ ⟨x, m', -1⟩ o ro = Zr at *
        obtain ⟨d1, d2, d3, d4, d5, d6⟩ := HC.out w4 hBB4.out
        have d7 := World.block_lt_of_cell? _ _ d2
        have d8 := World.block_lt_of_cell? _ _ d3
        cases hlv : ro.leave with
        | false =>
          have e1 : E.lv = false := HEH.out.lv.trans hlv
          have HL2 : Hid (Zr.lv = -1) := by show _ = _; rw [HLV.out, hlv]; rfl
          have HZN : Hid (run1 wt (l.drop (j + 1)) Zr.x Zr.m = Z) := by show _ = _; rw [HWR.out, if_pos (by rw [HL2.out]; decide)]
          rw [e1]
          clear e1 HLV HWR HAB HEH
          go_wp2
          go_roundw
          case rel => exact ⟨j + 1, Zr.x, Zr.m, p4, v4, by omega, by go_num, HP4.out, HZN.out, HG4.out, hBB4.out⟩
          case measure => simp [intOf]; omega
        | true =>
          have e1 : E.lv = true := HEH.out.lv.trans hlv
          have e2 : E.to = ro.a := HEH.out.to hlv
          have HL2 : Hid (Zr.lv = ro.a) := by show _ = _; rw [HLV.out, hlv]; rfl
          have hlu : u32 ro.a := HAB.out
          have HZN : Hid (Z = .leave Zr) := by show _ = _; rw [HWR.out, if_neg (by rw [HL2.out]; have := hlu.1; omega)]
          rw [e1, e2]
          clear e1 e2 HLV HWR HAB HEH
          have hle := leave_any (N := N) (HR.out w4 (HCX.out w4 hBB4.out)) HG4.out (HS.out w4 (HCX.out w4 hBB4.out)) (by have := HP4.out.2.1; omega) (by omega) (by omega) (by omega) (by omega) n1 n2 n3 n4 HP4.out.2.2 ro.a many hlu.1 hlu.2 c0 c1 m0' m1'
          rw [HP4.out.1] at hle
          go_wp2_with fail
          refine hle.mono ?_
          rintro e w5 ⟨rfl, hS5, hR5, hs5, hf5, ho5⟩
          have hne : w.heap.size + 1 ≠ stb ∧ w.heap.size + 1 ≠ bp ∧ w.heap.size + 1 ≠ bh := by omega
          have hbk := hf5 (w.heap.size + 1) d8 hne.1 hne.2.1 hne.2.2
          have r0 := (World.cell?_of_block (a := ⟨w.heap.size + 1, 0, none⟩) hbk).trans d3
          have r1 := (World.cell?_of_block (a := ⟨w.heap.size + 1, 1, none⟩) hbk).trans d4
          have rf : ∀ k, w5.frozen? ⟨w.heap.size + 1, k, none⟩ = false := fun k => (World.frozen?_of_block (a := ⟨w.heap.size + 1, k, none⟩) hbk).trans (d5 k)
          have r8 := World.block_lt_of_cell? _ _ r0
          have HS5 : Hid (StRow w5 stb (leftS S Zr.x Zr.lv many)) := by rw [HL2.out]; exact hS5
          have HR5 : Hid (RamIs w5 sb bp bw bh (N + 2 * p4.length) Zr.m wt ht) := hR5
          have HF5 : Hid (∀ k, k < w.heap.size → k ≠ stb → k ≠ bp → k ≠ bh → w5.heap[k]? = w.heap[k]?) := fun k hk k1 k2 k3 => (hf5 k (by omega) k1 k2 k3).trans ((HCX.out w4 hBB4.out).block k hk)
          have HO5 : Hid (w5.os = w.os ∧ w5.tape = w.tape ∧ w5.output = w.output) := ⟨ho5.1.trans (HCX.out w4 hBB4.out).os, ho5.2.1.trans (HCX.out w4 hBB4.out).tape, ho5.2.2.trans (HCX.out w4 hBB4.out).output⟩
          clear hle hS5 hR5 hf5 ho5 hbk d1 d2 d3 d4 d5 d7 d8
          go_wp2
          obtain ⟨j0, j1⟩ := end_putG r0 r1 (.bool false) (.int .i64 0)
          have hoth : ∀ k, k ≠ w.heap.size + 1 → ((w5.setCell ⟨w.heap.size + 1, 0, none⟩ (.bool false)).setCell ⟨w.heap.size + 1, 1, none⟩ (.int .i64 0)).heap[k]? = w5.heap[k]? := fun k hk => (Below.heap_setCell _ ⟨w.heap.size + 1, 1, none⟩ _ k hk).trans (Below.heap_setCell _ ⟨w.heap.size + 1, 0, none⟩ _ k hk)
          refine bodyPost_ret (results_cell1G (A := ⟨w.heap.size + 1, 0, none⟩) rfl _ _ _ rfl (end_loadG j0 j1)) rfl ?_
          rw [HZN.out]
          exact ⟨rfl, HS5.out.block (hoth stb (by omega)), ⟨_, by have := HP4.out.2.1; omega, HR5.out.turn1 (w.heap.size + 1) (by omega) (by omega) (by omega) (by omega) hoth⟩, by simp; omega, fun k hk k1 k2 k3 => (hoth k (by omega)).trans (HF5.out k hk k1 k2 k3), HO5.out⟩
    · obtain rfl : j = l.length := by omega
      have HZN : Hid (Z = .fell) := by show _ = _; rw [← HZJ.out, List.drop_length]; rfl
      go_wp2
      obtain ⟨j0, j1⟩ := end_putG d3 d4 (.bool true) (.int .i64 0)
      refine bodyPost_ret (results_cell1G (A := ⟨w.heap.size + 1, 0, none⟩) rfl _ _ _ rfl (end_loadG j0 j1)) rfl ?_
      rw [HZN.out]
      exact ⟨rfl, ((HCX.out wr HBJ.out).setCell (p := ⟨w.heap.size + 1, 0, none⟩) (by show w.heap.size ≤ w.heap.size + 1; omega) _).setCell (p := ⟨w.heap.size + 1, 1, none⟩) (by show w.heap.size ≤ w.heap.size + 1; omega) _⟩
end
end Go.Proofs.YtjkencgcdlfjhaaGreatDoor
/-
  Errors of ir.Eval.
-/
namespace Go.Proofs.YtjkencgcdlfjhaaGreatDoor
open Go.RowKit Go.Maps
open Num
set_option linter.unusedVariables false
section
variable {w : World}
theorem enE (w : World) (pc many : Int) (v : Value) : ∀ j, ((w.alloc (.cells #[.int .u32 pc, .int .i64 many, v] 35)).alloc (.cells #[.bool false, .int .i64 0] 45)).frozen? ⟨w.heap.size + 1, j, none⟩ = false := fun j => by
  rw [show w.heap.size + 1 = (w.alloc (.cells #[.int .u32 pc, .int .i64 many, v] 35)).heap.size by simp]; exact World.frozen?_alloc_at _ _ _ _ rfl
set_option maxRecDepth 100000 in
set_option maxHeartbeats 2000000 in
theorem ieval_nil (pe : Nat → Addr) (E : Eg pe w) (pc many : Int) (v : Value) :
    Calls Tryz.prog 16 #[.agg #[.int .u32 pc, .int .i64 many, v], .pointer none, .pointer none] w fun e w' => e = .returned (.tuple #[.agg #[.bool false, .int .i64 0], .iface 311 (.pointer (some (pe 3)))]) ∧ Below w.heap.size w w' := by
  have B0 : Below w.heap.size w ((w.alloc (.cells #[.int .u32 pc, .int .i64 many, v] 35)).alloc (.cells #[.bool false, .int .i64 0] 45)) := ((Below.refl _ _).alloc (Nat.le_refl _) _).alloc (by simp) _
  have e0 : ((w.alloc (.cells #[.int .u32 pc, .int .i64 many, v] 35)).alloc (.cells #[.bool false, .int .i64 0] 45)).cell? ⟨w.heap.size + 1, 0, none⟩ = some (.bool false) := by simp
  have e1 : ((w.alloc (.cells #[.int .u32 pc, .int .i64 many, v] 35)).alloc (.cells #[.bool false, .int .i64 0] 45)).cell? ⟨w.heap.size + 1, 1, none⟩ = some (.int .i64 0) := by simp
  have ef := enE w pc many v
  have hsz0 : ((w.alloc (.cells #[.int .u32 pc, .int .i64 many, v] 35)).alloc (.cells #[.bool false, .int .i64 0] 45)).heap.size = w.heap.size + 2 := by simp
  have g3 := (E.stays B0).e3
  have hge : 2 < w.heap.size := E.size.2.1
  have HB0 : Hid (Below w.heap.size w ((w.alloc (.cells #[.int .u32 pc, .int .i64 many, v] 35)).alloc (.cells #[.bool false, .int .i64 0] 45))) := B0
  clear E B0
  go_enter Tryz.func16, Tryz.ntmps16
  go_upto_region 2 with fail
  generalize ((w.alloc (.cells #[.int .u32 pc, .int .i64 many, v] 35)).alloc (.cells #[.bool false, .int .i64 0] 45)) = V at *
  have zz : w.heap.size + 1 < V.heap.size := by omega
  refine wp_region_phase 4 [(0, 0), (1, 1), (2, 2), (3, 0)] (fun W => W.cell? ⟨2, 0, none⟩ = some (.iface 311 (.pointer (some (pe 3))))) (by kernel_rfl) (by kernel_rfl) (fun _ _ _ d _ h => by cases d <;> exact h) g3 ?_
  refine wpPlanZ_free (by rfl) (by rfl) (fun W => by (go_simp; try with_reducible rfl)) (fun K hK => ?_); go_simp; refine hK _ ?_; clear hK K
  refine wpPlanZ_quiet (by rfl) (by rfl) (fun W hW => by (go_simp; try with_reducible rfl)) (fun K hK => ?_); go_simp; refine hK _ ?_; clear hK K
  refine wpPlanZ_serial (by rfl) (by rfl) (fun K hK => ?_)
  go_simp
  refine hK _ _ (fun _ => ?_) ?_
  · have := (World.cell?_of_block (a := ⟨2, 0, none⟩) ((Below.heap_setCell (V.setCell ⟨w.heap.size + 1, 0, none⟩ (.bool false)) ⟨w.heap.size + 1, 1, none⟩ (.int .i64 0) 2 (by show 2 ≠ w.heap.size + 1; omega)).trans (Below.heap_setCell V ⟨w.heap.size + 1, 0, none⟩ (.bool false) 2 (by show 2 ≠ w.heap.size + 1; omega)))).trans g3
    exact this
  clear hK K
  refine wpPlanZ_free (by rfl) (by rfl) (fun W => by (go_simp; try with_reducible rfl)) (fun K hK => ?_); go_simp; refine hK _ ?_; clear hK K
  refine wpPlanZ_nil ?_
  go_wp2
  obtain ⟨j0, j1⟩ := end_putG e0 e1 (.bool false) (.int .i64 0)
  refine bodyPost_ret (results_cell1G (A := ⟨w.heap.size + 1, 0, none⟩) rfl _ _ _ rfl (end_loadG ((cell_drewG _ _).trans j0) ((cell_drewG _ _).trans j1))) rfl ?_
  exact ⟨rfl, ((HB0.out.setCell (p := ⟨w.heap.size + 1, 0, none⟩) (by show w.heap.size ≤ w.heap.size + 1; omega) _).setCell (p := ⟨w.heap.size + 1, 1, none⟩) (by show w.heap.size ≤ w.heap.size + 1; omega) _).drew⟩
set_option maxRecDepth 100000 in
set_option maxHeartbeats 4000000 in
theorem ieval_bad (pe : Nat → Addr) (E : Eg pe w) {v : Value} {l : List Opx} (A : OpsIn w v l) (hl : (l.length : Int) ≤ 1000000) (pc many : Int) (m0 : -9223372036854775808 ≤ many) (m1 : many ≤ 9223372036854775807) (hpf : codeF many l ≠ (0, -1)) (stb sb : Nat) :
    Calls Tryz.prog 16 #[.agg #[.int .u32 pc, .int .i64 many, v], .pointer (some ⟨stb, 0, none⟩), .pointer (some ⟨sb, 0, none⟩)] w fun e w' => (∃ t a, e = .returned (.tuple #[.agg #[.bool false, .int .i64 0], .iface t (.pointer (some a))]) ∧ CErr pe w' (codeF many l) (.iface t (.pointer (some a)))) ∧ Below w.heap.size w w' := by
  have B0 : Below w.heap.size w ((w.alloc (.cells #[.int .u32 pc, .int .i64 many, v] 35)).alloc (.cells #[.bool false, .int .i64 0] 45)) := ((Below.refl _ _).alloc (Nat.le_refl _) _).alloc (by simp) _
  have k0 : ((w.alloc (.cells #[.int .u32 pc, .int .i64 many, v] 35)).alloc (.cells #[.bool false, .int .i64 0] 45)).cell? ⟨w.heap.size, 0, none⟩ = some (.int .u32 pc) := by simp
  have k1 : ((w.alloc (.cells #[.int .u32 pc, .int .i64 many, v] 35)).alloc (.cells #[.bool false, .int .i64 0] 45)).cell? ⟨w.heap.size, 1, none⟩ = some (.int .i64 many) := by simp
  have k2 : ((w.alloc (.cells #[.int .u32 pc, .int .i64 many, v] 35)).alloc (.cells #[.bool false, .int .i64 0] 45)).cell? ⟨w.heap.size, 2, none⟩ = some v := by simp
  have e0 : ((w.alloc (.cells #[.int .u32 pc, .int .i64 many, v] 35)).alloc (.cells #[.bool false, .int .i64 0] 45)).cell? ⟨w.heap.size + 1, 0, none⟩ = some (.bool false) := by simp
  have e1 : ((w.alloc (.cells #[.int .u32 pc, .int .i64 many, v] 35)).alloc (.cells #[.bool false, .int .i64 0] 45)).cell? ⟨w.heap.size + 1, 1, none⟩ = some (.int .i64 0) := by simp
  have ef := enE w pc many v
  have hsz0 : ((w.alloc (.cells #[.int .u32 pc, .int .i64 many, v] 35)).alloc (.cells #[.bool false, .int .i64 0] 45)).heap.size = w.heap.size + 2 := by simp
  have hck := check_any pe (E.stays B0) (A.stays B0) hl pc many m0 m1
  have HPF : Hid (codeF many l ≠ (0, -1)) := hpf
  have HB0 : Hid (Below w.heap.size w ((w.alloc (.cells #[.int .u32 pc, .int .i64 many, v] 35)).alloc (.cells #[.bool false, .int .i64 0] 45))) := B0
  obtain ⟨ra, rc, hv, _⟩ := A.sh
  subst hv
  generalize codeF many l = f at *
  clear E A B0 hpf
  go_enter Tryz.func16, Tryz.ntmps16
  go_upto_region 3 with fail
  generalize ((w.alloc (.cells #[.int .u32 pc, .int .i64 many, .slice ra l.length rc] 35)).alloc (.cells #[.bool false, .int .i64 0] 45)) = V at *
  go_wp2_with fail
  refine hck.mono ?_
  rintro e w1 ⟨⟨x, rfl, hC⟩, hb1⟩
  obtain ⟨t, a, rfl⟩ := cerr_some hC HPF.out
  have q0 := (hb1.cell (p := ⟨w.heap.size + 1, 0, none⟩) (show w.heap.size + 1 < V.heap.size by omega)).trans e0
  have q1 := (hb1.cell (p := ⟨w.heap.size + 1, 1, none⟩) (show w.heap.size + 1 < V.heap.size by omega)).trans e1
  have qf : ∀ j, w1.frozen? ⟨w.heap.size + 1, j, none⟩ = false := fun j => (hb1.frozen (p := ⟨w.heap.size + 1, j, none⟩) (show w.heap.size + 1 < V.heap.size by omega)).trans (ef j)
  have hBw : Hid (Below w.heap.size w w1) := HB0.out.trans (hb1.mono (by omega))
  have zz : w.heap.size + 1 < w1.heap.size := by have := hb1.size; omega
  have HCE : Hid (CErr pe ((w1.setCell ⟨w.heap.size + 1, 0, none⟩ (.bool false)).setCell ⟨w.heap.size + 1, 1, none⟩ (.int .i64 0)) f (.iface t (.pointer (some a)))) := by
    rcases hC with h | ⟨h1, h2, fb, h3, h4, h5⟩
    · exact .inl h
    · have hne : fb ≠ w.heap.size + 1 := by
        intro e
        subst e
        rw [q0] at h4
        cases h4
      have hbk : ((w1.setCell ⟨w.heap.size + 1, 0, none⟩ (.bool false)).setCell ⟨w.heap.size + 1, 1, none⟩ (.int .i64 0)).heap[fb]? = w1.heap[fb]? := (Below.heap_setCell _ ⟨w.heap.size + 1, 1, none⟩ _ fb hne).trans (Below.heap_setCell _ ⟨w.heap.size + 1, 0, none⟩ _ fb hne)
      exact .inr ⟨h1, h2, fb, h3, (World.cell?_of_block (a := ⟨fb, 0, none⟩) hbk).trans h4, (World.cell?_of_block (a := ⟨fb, 1, none⟩) hbk).trans h5⟩
  clear hck hb1 hC e0 e1 ef k0 k1 k2
  go_wp2
  obtain ⟨j0, j1⟩ := end_putG q0 q1 (.bool false) (.int .i64 0)
  refine bodyPost_ret (results_cell1G (A := ⟨w.heap.size + 1, 0, none⟩) rfl _ _ _ rfl (end_loadG j0 j1)) rfl ?_
  exact ⟨⟨t, a, rfl, HCE.out⟩, (hBw.out.setCell (p := ⟨w.heap.size + 1, 0, none⟩) (by show w.heap.size ≤ w.heap.size + 1; omega) _).setCell (p := ⟨w.heap.size + 1, 1, none⟩) (by show w.heap.size ≤ w.heap.size + 1; omega) _⟩
set_option maxRecDepth 100000 in
set_option maxHeartbeats 4000000 in
theorem ieval_align (pe : Nat → Addr) (E : Eg pe w) {stb sb : Nat} {S : St} (hS : StRow w stb S) {v : Value} {l : List Opx} (A : OpsIn w v l) (hl : (l.length : Int) ≤ 1000000) (pc many : Int) (p0 : 0 ≤ pc) (p1 : pc < 4294967296) (m0 : -9223372036854775808 ≤ many) (m1 : many ≤ 9223372036854775807) (hpf : codeF many l = (0, -1)) (hno : S.sl = true ∨ S.sl = false ∧ S.pc = pc ∧ S.nx ≠ (pc + 4) % 4294967296) :
    Calls Tryz.prog 16 #[.agg #[.int .u32 pc, .int .i64 many, v], .pointer (some ⟨stb, 0, none⟩), .pointer (some ⟨sb, 0, none⟩)] w fun e w' => e = .returned (.tuple #[.agg #[.bool false, .int .i64 0], .iface 311 (.pointer (some (pe 9)))]) ∧ Below w.heap.size w w' := by
  have B0 : Below w.heap.size w ((w.alloc (.cells #[.int .u32 pc, .int .i64 many, v] 35)).alloc (.cells #[.bool false, .int .i64 0] 45)) := ((Below.refl _ _).alloc (Nat.le_refl _) _).alloc (by simp) _
  have k0 : ((w.alloc (.cells #[.int .u32 pc, .int .i64 many, v] 35)).alloc (.cells #[.bool false, .int .i64 0] 45)).cell? ⟨w.heap.size, 0, none⟩ = some (.int .u32 pc) := by simp
  have k1 : ((w.alloc (.cells #[.int .u32 pc, .int .i64 many, v] 35)).alloc (.cells #[.bool false, .int .i64 0] 45)).cell? ⟨w.heap.size, 1, none⟩ = some (.int .i64 many) := by simp
  have k2 : ((w.alloc (.cells #[.int .u32 pc, .int .i64 many, v] 35)).alloc (.cells #[.bool false, .int .i64 0] 45)).cell? ⟨w.heap.size, 2, none⟩ = some v := by simp
  have e0 : ((w.alloc (.cells #[.int .u32 pc, .int .i64 many, v] 35)).alloc (.cells #[.bool false, .int .i64 0] 45)).cell? ⟨w.heap.size + 1, 0, none⟩ = some (.bool false) := by simp
  have e1 : ((w.alloc (.cells #[.int .u32 pc, .int .i64 many, v] 35)).alloc (.cells #[.bool false, .int .i64 0] 45)).cell? ⟨w.heap.size + 1, 1, none⟩ = some (.int .i64 0) := by simp
  have ef := enE w pc many v
  have hsz0 : ((w.alloc (.cells #[.int .u32 pc, .int .i64 many, v] 35)).alloc (.cells #[.bool false, .int .i64 0] 45)).heap.size = w.heap.size + 2 := by simp
  have hck := check_any pe (E.stays B0) (A.stays B0) hl pc many m0 m1
  rw [hpf] at hck
  have HBE : Hid (∀ W, Below w.heap.size w W → Calls Tryz.prog 50 #[.int .u32 pc, .pointer (some ⟨stb, 0, none⟩), .pointer (some ⟨sb, 0, none⟩)] W fun e w' => e = .returned (.tuple #[.pointer none, .iface 311 (.pointer (some (pe 9)))]) ∧ Below W.heap.size W w') := fun W hW => begin_no pe (E.stays hW) (hS.stays hW) pc p0 p1 hno
  have HB0 : Hid (Below w.heap.size w ((w.alloc (.cells #[.int .u32 pc, .int .i64 many, v] 35)).alloc (.cells #[.bool false, .int .i64 0] 45))) := B0
  obtain ⟨ra, rc, hv, _⟩ := A.sh
  subst hv
  clear E A B0 hpf hS hno
  go_enter Tryz.func16, Tryz.ntmps16
  go_upto_region 3 with fail
  generalize ((w.alloc (.cells #[.int .u32 pc, .int .i64 many, .slice ra l.length rc] 35)).alloc (.cells #[.bool false, .int .i64 0] 45)) = V at *
  go_wp2_with fail
  refine hck.mono ?_
  rintro e w1 ⟨⟨x, rfl, hC⟩, hb1⟩
  obtain rfl : x = .nilIface := by
    rcases hC with ⟨_, h⟩ | ⟨h1, _⟩
    · exact h
    · exact absurd h1 (by decide)
  have q0 := (hb1.cell (p := ⟨w.heap.size + 1, 0, none⟩) (show w.heap.size + 1 < V.heap.size by omega)).trans e0
  have q1 := (hb1.cell (p := ⟨w.heap.size + 1, 1, none⟩) (show w.heap.size + 1 < V.heap.size by omega)).trans e1
  have qf : ∀ j, w1.frozen? ⟨w.heap.size + 1, j, none⟩ = false := fun j => (hb1.frozen (p := ⟨w.heap.size + 1, j, none⟩) (show w.heap.size + 1 < V.heap.size by omega)).trans (ef j)
  have l0 := (hb1.cell (p := ⟨w.heap.size, 0, none⟩) (show w.heap.size < V.heap.size by omega)).trans k0
  have hBw : Hid (Below w.heap.size w w1) := HB0.out.trans (hb1.mono (by omega))
  have zz : w.heap.size + 1 < w1.heap.size := by have := hb1.size; omega
  have zz0 : w.heap.size < w1.heap.size := by omega
  have hbe := HBE.out w1 hBw.out
  clear hck hb1 hC e0 e1 ef k0 k1 k2
  go_wp2_with fail
  refine hbe.mono ?_
  rintro e w2 ⟨rfl, hb2⟩
  have r0 := (hb2.cell (p := ⟨w.heap.size + 1, 0, none⟩) zz).trans q0
  have r1 := (hb2.cell (p := ⟨w.heap.size + 1, 1, none⟩) zz).trans q1
  have rf : ∀ j, w2.frozen? ⟨w.heap.size + 1, j, none⟩ = false := fun j => (hb2.frozen (p := ⟨w.heap.size + 1, j, none⟩) zz).trans (qf j)
  have hBw2 : Hid (Below w.heap.size w w2) := hBw.out.trans (hb2.mono (by omega))
  have zz2 : w.heap.size + 1 < w2.heap.size := by have := hb2.size; omega
  clear hbe hb2 q0 q1 qf l0
  go_wp2
  obtain ⟨j0, j1⟩ := end_putG r0 r1 (.bool false) (.int .i64 0)
  refine bodyPost_ret (results_cell1G (A := ⟨w.heap.size + 1, 0, none⟩) rfl _ _ _ rfl (end_loadG j0 j1)) rfl ?_
  exact ⟨rfl, (hBw2.out.setCell (p := ⟨w.heap.size + 1, 0, none⟩) (by show w.heap.size ≤ w.heap.size + 1; omega) _).setCell (p := ⟨w.heap.size + 1, 1, none⟩) (by show w.heap.size ≤ w.heap.size + 1; omega) _⟩
end
end Go.Proofs.YtjkencgcdlfjhaaGreatDoor
/-
  ir.Eval as the document has it; EvalOf.
-/
namespace Go.Proofs.YtjkencgcdlfjhaaGreatDoor
open Go.RowKit Go.Maps
open Num
set_option linter.unusedVariables false
theorem ievalT_any {w : World} {stb sb bp bw bh N : Nat} {m : Nat → Int} {wt ht : Int → Bool} (pe : Nat → Addr) (E : Eg pe w) (R : RamIs w sb bp bw bh N m wt ht) (hN : N ≤ 900000) {S : St} (ok : S.ok) (hS : StRow w stb S) (n1 : sb ≠ stb) (n2 : bp ≠ stb) (n3 : bw ≠ stb) (n4 : bh ≠ stb) {v : Value} {l : List Opx} (A : OpsIn w v l) (pc many : Int) (p0 : 0 ≤ pc) (p1 : pc < 4294967296) (m0 : -9223372036854775808 ≤ many) (m1 : many ≤ 9223372036854775807) (hpf : codeF many l = (0, -1)) (hsl : S.sl = false) (hpc : S.pc = pc) (hnx : S.nx = lo (pc + 4)) (hr0 : S.r 0 = 0) (c0 : 0 ≤ S.ct) (c1 : S.ct ≤ 1152921504606846976) :
    Calls Tryz.prog 16 #[.agg #[.int .u32 pc, .int .i64 many, v], .pointer (some ⟨stb, 0, none⟩), .pointer (some ⟨sb, 0, none⟩)] w fun e w' => e = .returned (.tuple #[.agg #[.bool (ozT (runZ wt (eachL l) (nwX (rgS S) 34) m)), .int .i64 (ozA (runZ wt (eachL l) (nwX (rgS S) 34) m))], .nilIface]) ∧ ∃ G, stA G = stA (ozS S many (runZ wt (eachL l) (nwX (rgS S) 34) m)) ∧ HOut w w' stb sb bp bw bh wt ht G (ozM m (runZ wt (eachL l) (nwX (rgS S) 34) m)) := by
  have hlt := ram_ltG R
  have WL := codeF_well.1 hpf
  have hmem : ∀ r ∈ eachL l, ∀ o ∈ r, o ∈ l := fun r hr o ho => by
    unfold eachL at hr
    obtain ⟨q, hq, rfl⟩ := List.mem_map.1 hr
    rw [List.mem_singleton.1 ho]; exact hq
  have hwell : ∀ r ∈ eachL l, ∀ o ∈ r, o.ok ∧ opE o many = 0 := fun r hr o ho => ⟨A.ok o (hmem r hr o ho), wellL_mem WL.ops o (hmem r hr o ho)⟩
  have hne : eachL l ≠ [] := by unfold eachL; intro h; exact WL.ne (List.map_eq_nil_iff.1 h)
  have hlast : ∀ r, (eachL l).getLast? = some r → r.any outB = true := fun r hr => by
    obtain ⟨o, ho, hb⟩ := WL.last
    unfold eachL at hr
    rw [List.getLast?_map, ho] at hr
    obtain rfl : [o] = r := by simpa using hr
    simp [hb]
  have hnf := runZ_nofell (many := many) wt (eachL l) (nwX (rgS S) 34) m hne hwell hlast (nwX_bd (rgS_bd ok)) R.mb
  have hx0 := fun M => runZ_x0 (wt := wt) (many := many) (eachL l) (nwX (rgS S) 34) m M (fun r hr o ho => (hwell r hr o ho).2)
  refine (ieval_ok pe E R hN ok hS n1 n2 n3 n4 hlt.1 hlt.2.1 hlt.2.2.1 hlt.2.2.2 A pc many p0 p1 m0 m1 hpf hsl hpc hnx c0 c1).mono ?_
  intro e w' h
  rw [begX_nw hr0] at h
  unfold run1 at h
  cases hz : runZ wt (eachL l) (nwX (rgS S) 34) m with
  | trap t =>
    rw [hz] at h
    obtain ⟨rfl, hb⟩ := h
    exact ⟨rfl, S, rfl, HOut.of_below hS R hb⟩
  | fell => exact absurd hz hnf
  | leave M =>
    rw [hz] at h
    obtain ⟨rfl, h1, ⟨N', _, h2⟩, h3, h4, h5, h6, h7⟩ := h
    have hM : M.x 0 = S.r 0 := by rw [hx0 M hz, hr0]; unfold nwX; rw [if_neg (by omega)]
    exact ⟨rfl, leftS S M.x M.lv many, stA_congr (left_same hM), ⟨h1, ⟨N', h2⟩, h3, h4, h5, h6, h7⟩⟩
theorem end3_put {W : World} {B : Nat} {u0 u1 u2 : Value} (z0 : W.cell? ⟨B, 0, none⟩ = some u0) (z1 : W.cell? ⟨B, 1, none⟩ = some u1) (z2 : W.cell? ⟨B, 2, none⟩ = some u2) (v0 v1 v2 : Value) : (((W.setCell ⟨B, 0, none⟩ v0).setCell ⟨B, 1, none⟩ v1).setCell ⟨B, 2, none⟩ v2).cell? ⟨B, 0, none⟩ = some v0 ∧ (((W.setCell ⟨B, 0, none⟩ v0).setCell ⟨B, 1, none⟩ v1).setCell ⟨B, 2, none⟩ v2).cell? ⟨B, 1, none⟩ = some v1 ∧ (((W.setCell ⟨B, 0, none⟩ v0).setCell ⟨B, 1, none⟩ v1).setCell ⟨B, 2, none⟩ v2).cell? ⟨B, 2, none⟩ = some v2 := by
  obtain ⟨a0, a1⟩ := end_putG z0 z1 v0 v1
  have b2 : ((W.setCell ⟨B, 0, none⟩ v0).setCell ⟨B, 1, none⟩ v1).cell? ⟨B, 2, none⟩ = some u2 := by rw [World.cell?_setCell_other _ _ _ _ (by intro e; injection e with e1 e2; omega), World.cell?_setCell_other _ _ _ _ (by intro e; injection e with e1 e2; omega)]; exact z2
  exact ⟨by rw [World.cell?_setCell_other _ _ _ _ (by intro e; injection e with e1 e2; omega)]; exact a0, by rw [World.cell?_setCell_other _ _ _ _ (by intro e; injection e with e1 e2; omega)]; exact a1, World.cell?_setCell_same _ _ _ b2⟩
theorem end3_load {w : World} {B : Nat} {a b c : Value} (z0 : w.cell? ⟨B, 0, none⟩ = some a) (z1 : w.cell? ⟨B, 1, none⟩ = some b) (z2 : w.cell? ⟨B, 2, none⟩ = some c) : (loadVar 56 ⟨B, 0, none⟩).run Tryz.prog w = .ok (.agg #[a, b, c]) w := by
  simp [go_sem, z0, z1, z2]
set_option maxRecDepth 100000 in
set_option maxHeartbeats 4000000 in
theorem evalOf_any {w : World} {rb gb kb hb : Nat} {m : Nat → Int} {wt ht : Int → Bool} (D : DMem w rb gb kb hb m wt ht) (sb : Nat) (S : St) (hS : StRow w sb S) (ok : S.ok) (c0 : 0 ≤ S.ct) (c1 : S.ct ≤ 1099511627776) (hsr : sb ≠ rb) (hsg : gb ≠ sb) {v : Value} {l : List Opx} (A : OpsIn w v l) (hl : l.length ≤ 1000) (F : Few (eachL l)) (many : Int) (m0 : 1 ≤ many) (m1 : many ≤ 24) (hw : ∀ o ∈ l, opE o many = 0) :
    Calls Tryz.prog 21 #[v, .int .i64 many, .pointer (some ⟨sb, 0, none⟩), .pointer (some ⟨rb, 0, none⟩)] w fun e w' => e = .returned (.agg #[.bool (ozT (runZ wt (eachL l) (nwX (rgS S) 34) m)), .int .i64 (ozA (runZ wt (eachL l) (nwX (rgS S) 34) m)), .bool (ozF (runZ wt (eachL l) (nwX (rgS S) 34) m))]) ∧ Rn w w' sb rb gb (ozS S many (runZ wt (eachL l) (nwX (rgS S) 34) m)) (ozM m (runZ wt (eachL l) (nwX (rgS S) 34) m)) := by
  have hmem : ∀ r ∈ eachL l, ∀ o ∈ r, opE o many = 0 := fun r hr o ho => by
    unfold eachL at hr
    obtain ⟨q, hq, rfl⟩ := List.mem_map.1 hr
    rw [List.mem_singleton.1 ho]; exact hw q hq
  have HRUN : Hid (∀ (W : World) (u : Value), Below w.heap.size w W → RowsIn W u (eachL l) → Calls Tryz.prog 40 #[u, .int .i64 many, .pointer (some ⟨sb, 0, none⟩), .pointer (some ⟨rb, 0, none⟩)] W fun e w' => e = .returned (.agg #[.bool (ozT (runZ wt (eachL l) (nwX (rgS S) 34) m)), .int .i64 (ozA (runZ wt (eachL l) (nwX (rgS S) 34) m)), .bool (ozF (runZ wt (eachL l) (nwX (rgS S) 34) m))]) ∧ Rn W w' sb rb gb (ozS S many (runZ wt (eachL l) (nwX (rgS S) 34) m)) (ozM m (runZ wt (eachL l) (nwX (rgS S) 34) m))) := fun W u hW hR => runT_any (D.stays hW) sb S (hS.stays hW) ok c0 c1 hsr hsg hR.rowsI F many m0 m1 hmem
  have hlt : sb < w.heap.size ∧ rb < w.heap.size ∧ gb < w.heap.size := ⟨hS.lt, World.block_lt_of_cell? _ _ D.d.c0, D.d.lt (.inr (.inl rfl))⟩
  generalize (runZ wt (eachL l) (nwX (rgS S) 34) m) = Q at *
  obtain ⟨ao, ca, rfl, _, hA⟩ := A.sh
  have HA : Hid (0 < l.length → ∃ b off : Nat, ao = some ⟨b, off, none⟩ ∧ ∀ (i : Nat) (o : Opx), l[i]? = some o → ∀ (j : Nat) (u : Value), (opC o)[j]? = some u → w.cell? ⟨b, off + i * 6 + j, none⟩ = some u) := hA
  have OK : Hid (∀ o ∈ l, o.ok) := A.ok
  obtain ⟨i0, hi, iz0, iz1, iz2⟩ := info_parts infoOps
  clear A hA D hS ok F hw hmem
  have B0 : Below w.heap.size w (w.alloc (.cells #[.bool false, .int .i64 0, .bool false] 56)) := (Below.refl _ _).alloc (Nat.le_refl _) _
  have e0 : (w.alloc (.cells #[.bool false, .int .i64 0, .bool false] 56)).cell? ⟨w.heap.size, 0, none⟩ = some (.bool false) := by simp
  have e1 : (w.alloc (.cells #[.bool false, .int .i64 0, .bool false] 56)).cell? ⟨w.heap.size, 1, none⟩ = some (.int .i64 0) := by simp
  have e2 : (w.alloc (.cells #[.bool false, .int .i64 0, .bool false] 56)).cell? ⟨w.heap.size, 2, none⟩ = some (.bool false) := by simp
  have ef : ∀ j, (w.alloc (.cells #[.bool false, .int .i64 0, .bool false] 56)).frozen? ⟨w.heap.size, j, none⟩ = false := fun j => World.frozen?_alloc_at _ _ _ _ rfl
  have hVs : (w.alloc (.cells #[.bool false, .int .i64 0, .bool false] 56)).heap.size = w.heap.size + 1 := by simp
  have HB0 : Hid (Below w.heap.size w (w.alloc (.cells #[.bool false, .int .i64 0, .bool false] 56))) := B0
  have HA2 : Hid (∀ W, Below w.heap.size w W → 0 < l.length → ∃ b off : Nat, ao = some ⟨b, off, none⟩ ∧ ∀ (i : Nat) (o : Opx), l[i]? = some o → ∀ (j : Nat) (u : Value), (opC o)[j]? = some u → W.cell? ⟨b, off + i * 6 + j, none⟩ = some u) := fun W hW hp => by
    obtain ⟨b, off, e, hc⟩ := HA.out hp
    exact ⟨b, off, e, fun i o hi j u hu => (hW.cell (World.block_lt_of_cell? _ _ (hc i o hi j u hu))).trans (hc i o hi j u hu)⟩
  clear B0 HA
  go_enter Tryz.func21, Tryz.ntmps21
  go_upto_region 1 with fail
  generalize w.alloc (.cells #[.bool false, .int .i64 0, .bool false] 56) = V at *
  go_wp2
  go_loopw [9, 10] (fun out i wr => ∃ (j : Nat) (us : List Value), j ≤ l.length ∧ i = .int .i64 j ∧ us.length = j ∧ wr.ownsRow (w.heap.size + 1) 23 1 out j us ∧ Ones wr out us (l.take j) ∧ Below (w.heap.size + 1) V wr) (fun _ i _ => l.length - (intOf i).toNat)
  case atStart => exact ⟨0, [], Nat.zero_le _, rfl, rfl, World.ownsRow_nil _ _ _ _, ⟨by simp, fun k u o h _ => by simp at h⟩, (hVs ▸ Below.refl _ _)⟩
  case round =>
    obtain ⟨j, us, hj, rfl, hul, ho, hO, hB⟩ := hrel
    have hBw : Below w.heap.size w wr := HB0.out.trans (hB.mono (by omega))
    by_cases hlt : j < l.length
    · obtain ⟨o, hoj⟩ : ∃ o, l[j]? = some o := ⟨_, List.getElem?_eq_getElem hlt⟩
      obtain ⟨b, off, rfl, hc⟩ := HA2.out wr hBw (by omega)
      obtain ⟨x0, x1, x2, x3, x4, x5⟩ := op_cells (w := wr) (fun k u hk => hc j o hoj k u hk)
      have zb := World.block_lt_of_cell? _ _ x0
      have hlt' : (j : Int) < l.length := by omega
      have hW : Below wr.heap.size wr ((wr.alloc (.cells #[.string o.s, .int .i64 o.d, .int .i64 o.a, .int .i64 o.b, .int .u32 o.i, .int .i64 o.t] 92)).alloc (.cells #[.slice (some ⟨wr.heap.size, 0, none⟩) 1 1] 23)) := ((Below.refl _ _).alloc (Nat.le_refl _) _).alloc (by simp) _
      have hO1 : OpsIn ((wr.alloc (.cells #[.string o.s, .int .i64 o.d, .int .i64 o.a, .int .i64 o.b, .int .u32 o.i, .int .i64 o.t] 92)).alloc (.cells #[.slice (some ⟨wr.heap.size, 0, none⟩) 1 1] 23)) (.slice (some ⟨wr.heap.size, 0, none⟩) 1 1) [o] := (ones_new wr o (OK.out o (List.mem_of_getElem? hoj))).stays ((Below.refl _ _).alloc (Nat.le_refl _) _)
      have hsz2 : wr.heap.size + 1 + 1 = (((wr.alloc (.cells #[.string o.s, .int .i64 o.d, .int .i64 o.a, .int .i64 o.b, .int .u32 o.i, .int .i64 o.t] 92)).alloc (.cells #[.slice (some ⟨wr.heap.size, 0, none⟩) 1 1] 23))).heap.size := by simp
      have HOW : Hid ((((wr.alloc (.cells #[.string o.s, .int .i64 o.d, .int .i64 o.a, .int .i64 o.b, .int .u32 o.i, .int .i64 o.t] 92)).alloc (.cells #[.slice (some ⟨wr.heap.size, 0, none⟩) 1 1] 23))).ownsRow (w.heap.size + 1) 23 1 u9 j us) := (ho.alloc _).alloc _
      have hn1 : ∀ (k : Nat) (u : Value), [Value.slice (some ⟨wr.heap.size, 0, none⟩) 1 1][k]? = some u → (((wr.alloc (.cells #[.string o.s, .int .i64 o.d, .int .i64 o.a, .int .i64 o.b, .int .u32 o.i, .int .i64 o.t] 92)).alloc (.cells #[.slice (some ⟨wr.heap.size, 0, none⟩) 1 1] 23))).cell? ((⟨wr.heap.size + 1, 0, none⟩ : Addr).add k) = some u := by
        intro k u hk
        rw [add_lit, World.cell?_alloc_at _ _ _ _ (by simp)]
        simpa using hk
      have hbs : w.heap.size + 1 ≤ wr.heap.size := by have := hB.size; omega
      have HS : Hid (∀ v1 w1, (((wr.alloc (.cells #[.string o.s, .int .i64 o.d, .int .i64 o.a, .int .i64 o.b, .int .u32 o.i, .int .i64 o.t] 92)).alloc (.cells #[.slice (some ⟨wr.heap.size, 0, none⟩) 1 1] 23))).grownBy w1 u9.ownBlock → Moved ((wr.alloc (.cells #[.string o.s, .int .i64 o.d, .int .i64 o.a, .int .i64 o.b, .int .u32 o.i, .int .i64 o.t] 92)).alloc (.cells #[.slice (some ⟨wr.heap.size, 0, none⟩) 1 1] 23)) u9 v1 → Ones w1 v1 (us ++ [.slice (some ⟨wr.heap.size, 0, none⟩) 1 1]) (l.take (j + 1)) ∧ Below (w.heap.size + 1) V w1) := by
        intro v1 w1 hg hm
        rw [take_snoc' hoj]
        refine ⟨hO.snoc (fun k hk => (own_at ho k hk).1) hW wr.heap.size (Nat.le_refl _) (by rw [← hsz2]; omega) hO1 hg hm, ?_⟩
        exact (hB.trans (hW.mono hbs)).grown hg (by rw [← hsz2]; omega) (fun k hk => (own_at ho k hk).2)
      clear hc hoj hB hO ho hW hO1 HA2 OK hsz2 hBw e0 e1 e2 ef
      go_wp2_with (at_builtin; refine wpList_append_moved rfl _ _ 73 rfl (w.heap.size + 1) 23 i0 (.slice none 0 0) 1 24 Tryz.underlying73 hi iz0 iz1 iz2 rfl (by decide) u9 j us rfl HOW.out ⟨wr.heap.size + 1, 0, none⟩ 1 1 [.slice (some ⟨wr.heap.size, 0, none⟩) 1 1] rfl rfl hn1 (by simp [Value.oneCell']) (by unfold maxLen; omega) (by omega) (by simp; omega) ?_; intro v1 w1 ho1 hg1 hm1; have K1 := HS.out v1 w1 hg1 hm1; have KO : Hid (w1.ownsRow (w.heap.size + 1) 23 1 v1 (j + 1) (us ++ [.slice (some ⟨wr.heap.size, 0, none⟩) 1 1])) := ho1; have KS : Hid (Ones w1 v1 (us ++ [.slice (some ⟨wr.heap.size, 0, none⟩) 1 1]) (l.take (j + 1)) ∧ Below (w.heap.size + 1) V w1) := K1; clear ho1 hg1 hm1 K1 HS HOW hn1 x0 x1 x2 x3 x4 x5 zb)
      go_roundw
      case rel => exact ⟨j + 1, _, by omega, by go_num, by rw [List.length_append, hul]; rfl, KO.out, KS.out.1, KS.out.2⟩
      case measure => simp [intOf]; omega
    · obtain rfl : j = l.length := by omega
      have HR : Hid (RowsIn wr u9 (eachL l)) := by
        rw [List.take_length] at hO
        rw [← hul] at ho
        exact hO.rows ho
      have hrn := HRUN.out wr u9 hBw HR.out
      have HBw : Hid (Below w.heap.size w wr) := hBw
      have k0 := (hB.cell (p := ⟨w.heap.size, 0, none⟩) (show w.heap.size < w.heap.size + 1 by omega)).trans e0
      have k1 := (hB.cell (p := ⟨w.heap.size, 1, none⟩) (show w.heap.size < w.heap.size + 1 by omega)).trans e1
      have k2 := (hB.cell (p := ⟨w.heap.size, 2, none⟩) (show w.heap.size < w.heap.size + 1 by omega)).trans e2
      have kf : ∀ j, wr.frozen? ⟨w.heap.size, j, none⟩ = false := fun j => (hB.frozen (p := ⟨w.heap.size, j, none⟩) (show w.heap.size < w.heap.size + 1 by omega)).trans (ef j)
      have hz := World.block_lt_of_cell? _ _ k0
      clear hO ho hB HA2 OK hBw e0 e1 e2 ef HR
      go_wp2_with fail
      refine hrn.mono ?_
      rintro e w5 ⟨rfl, hR5⟩
      have HR5 : Hid (Rn wr w5 sb rb gb (ozS S many Q) (ozM m Q)) := hR5
      have hbk := hR5.bk w.heap.size hz (by omega) (by omega)
      have r0 := (World.cell?_of_block (a := ⟨w.heap.size, 0, none⟩) hbk).trans k0
      have r1 := (World.cell?_of_block (a := ⟨w.heap.size, 1, none⟩) hbk).trans k1
      have r2 := (World.cell?_of_block (a := ⟨w.heap.size, 2, none⟩) hbk).trans k2
      have rf : ∀ j, w5.frozen? ⟨w.heap.size, j, none⟩ = false := fun j => (World.frozen?_of_block (a := ⟨w.heap.size, j, none⟩) hbk).trans (kf j)
      have zr := World.block_lt_of_cell? _ _ r0
      have hzs : w.heap.size < wr.heap.size := hz
      clear hR5 hbk k0 k1 k2 kf hz hrn
      go_wp2
      obtain ⟨j0, j1, j2⟩ := end3_put r0 r1 r2 (.bool (ozT Q)) (.int .i64 (ozA Q)) (.bool (ozF Q))
      refine bodyPost_ret (results_one_cell (A := ⟨w.heap.size, 0, none⟩) rfl _ _ _ rfl (end3_load j0 j1 j2)) rfl ?_
      refine ⟨rfl, ?_⟩
      have hoth : ∀ k, k ≠ w.heap.size → (((w5.setCell ⟨w.heap.size, 0, none⟩ (.bool (ozT Q))).setCell ⟨w.heap.size, 1, none⟩ (.int .i64 (ozA Q))).setCell ⟨w.heap.size, 2, none⟩ (.bool (ozF Q))).heap[k]? = w5.heap[k]? := fun k hk => ((Below.heap_setCell _ ⟨w.heap.size, 2, none⟩ _ k hk).trans (Below.heap_setCell _ ⟨w.heap.size, 1, none⟩ _ k hk)).trans (Below.heap_setCell _ ⟨w.heap.size, 0, none⟩ _ k hk)
      obtain ⟨s1, ⟨gx, s2, s3, s4⟩, s5, s6, s7, s8, s9⟩ := HR5.out
      have hws := HBw.out.size
      have hgx : gx ≠ w.heap.size := by
        rcases s3 with h | h
        · omega
        · omega
      exact ⟨s1.block (hoth sb (by omega)), ⟨gx, (World.cell?_of_block (a := ⟨rb, 0, none⟩) (hoth rb (by omega))).trans s2, (s3.imp id (by omega)), fun i hi => (World.cell?_of_block (a := ⟨gx, i, none⟩) (hoth gx hgx)).trans (s4 i hi)⟩, fun k hk k1 k2 => ((hoth k (by omega)).trans (s5 k (by omega) k1 k2)).trans (HBw.out.block k hk), by simp; omega, s7.trans HBw.out.os, s8.trans HBw.out.tape, s9.trans HBw.out.output⟩
end Go.Proofs.YtjkencgcdlfjhaaGreatDoor
/-
  The closed fact of codes: evaluated.
-/
namespace Go.Proofs.YtjkencgcdlfjhaaGreatDoor
open Go.RowKit Go.Maps
open Num
set_option linter.unusedVariables false
def eS : St := { zS with nx := 4 }
def eL : List Opx := [⟨kindS 1, 5, 0, 0, 7, 0⟩, ⟨kindS 3, 6, 5, 5, 0, 0⟩, ⟨kindS 26, 0, 0, 0, 40, 0⟩]
theorem eL_fine : codeF 1 eL = (0, -1) := by decide
theorem eL_ok : ∀ o ∈ eL, o.ok := by
  intro o ho
  simp [eL] at ho
  rcases ho with rfl | rfl | rfl <;> exact ⟨by decide, by decide, by decide, by decide, by decide, by decide, by decide, by decide, by decide, by decide⟩
def eX : Nat → Int := setX (setX (begX eS) 5 7) 6 14
theorem eRun (m : Nat → Int) (wt : Int → Bool) : run1 wt eL (begX eS) m = .leave ⟨eX, m, 40⟩ := by
  have k1 : ∀ d a b i t, (Opx.k ⟨kindS 1, d, a, b, i, t⟩) = 1 := fun _ _ _ _ _ => kn_kind 1 (by omega) (by omega)
  have k3 : ∀ d a b i t, (Opx.k ⟨kindS 3, d, a, b, i, t⟩) = 3 := fun _ _ _ _ _ => kn_kind 3 (by omega) (by omega)
  have k26 : ∀ d a b i t, (Opx.k ⟨kindS 26, d, a, b, i, t⟩) = 26 := fun _ _ _ _ _ => kn_kind 26 (by omega) (by omega)
  have r1 : resZ wt (begX eS) m ⟨kindS 1, 5, 0, 0, 7, 0⟩ = ⟨7, 0, false, false⟩ := by rw [resZ_val (by rw [k1]; omega), k1]; rfl
  have r2 : resZ wt (setX (begX eS) 5 7) m ⟨kindS 3, 6, 5, 5, 0, 0⟩ = ⟨14, 0, false, false⟩ := by rw [resZ_val (by rw [k3]; omega), k3]; rfl
  have r3 : resZ wt eX m ⟨kindS 26, 0, 0, 0, 40, 0⟩ = ⟨0, 40, false, true⟩ := by unfold resZ; rw [k26]; rfl
  unfold eL
  rw [run1_cons, r1, if_neg (by decide), appZ_val (by rw [k1]; omega) (by rw [k1]; omega) (by decide), if_pos (by show (-1 : Int) < 0; decide)]
  show run1 wt _ (setX (begX eS) 5 7) m = _
  rw [run1_cons, r2, if_neg (by decide), appZ_val (by rw [k3]; omega) (by rw [k3]; omega) (by decide), if_pos (by show (-1 : Int) < 0; decide)]
  show run1 wt _ eX m = _
  rw [run1_cons, r3, if_neg (by decide)]
  have : appZ ⟨eX, m, -1⟩ ⟨kindS 26, 0, 0, 0, 40, 0⟩ ⟨0, 40, false, true⟩ = ⟨eX, m, 40⟩ := by
    unfold appZ
    rw [wr_none (by rw [k26]; omega), k26]
    rfl
  rw [this, if_neg (by show ¬ (40 : Int) < 0; decide)]
theorem eS_ok : eS.ok := by
  refine ⟨fun j => ⟨Int.le_refl _, by show (0 : Int) < _; decide⟩, ?_, ?_, ?_, ?_, ?_, ?_, ?_, ?_, ?_, by decide, by decide⟩ <;> exact ⟨by decide, by decide⟩
set_option maxRecDepth 100000 in
set_option maxHeartbeats 4000000 in
theorem evaluated_any (pe : Nat → Addr) {w : World} (E : Eg pe w) :
    Calls Tryz.prog 8 #[] w fun e w' => e = .returned (.bool true) ∧ Below w.heap.size w w' := by
  go_enter Tryz.func8, Tryz.ntmps8
  go_upto_region 2 with (first | (refine wpList_allocSt rfl rfl ?_) | (refine wpList_storeSt rfl _ _ rfl (stA zS) (stA eS) rfl rfl (stA_size _) (stA_size _) (stA_one _) ?_))
  have hS0 := st_rowG w eS
  have hB0 : Below w.heap.size w (w.alloc (.cells (stA eS) 26)) := (Below.refl _ _).alloc (Nat.le_refl _) _
  have hz0 : (w.alloc (.cells (stA eS) 26)).heap.size = w.heap.size + 1 := by simp
  generalize w.alloc (.cells (stA eS) 26) = V at *
  go_upto_region 3 with fail
  have hOps : OpsIn (V.alloc (.cells #[.string ⟨#[115, 101, 116]⟩, .int .i64 5, .int .i64 0, .int .i64 0, .int .u32 7, .int .i64 0, .string ⟨#[97, 100, 100]⟩, .int .i64 6, .int .i64 5, .int .i64 5, .int .u32 0, .int .i64 0, .string ⟨#[111, 117, 116]⟩, .int .i64 0, .int .i64 0, .int .i64 0, .int .u32 40, .int .i64 0] 92)) (.slice (some ⟨w.heap.size + 1, 0, none⟩) 3 3) eL := by
    refine ⟨⟨_, 3, rfl, by decide, fun _ => ⟨w.heap.size + 1, 0, rfl, fun i o hi j u hu => ?_⟩⟩, eL_ok⟩
    rw [← hz0, cell_of_row _ _ _ _ _ _ (heap_alloc_new V _)]
    have h3 : i = 0 ∨ i = 1 ∨ i = 2 := by have := (List.getElem?_eq_some_iff.1 hi).1; simp [eL] at this; omega
    have h6 : j < 6 := by have := (List.getElem?_eq_some_iff.1 hu).1; simpa [opC] using this
    have h6' : j = 0 ∨ j = 1 ∨ j = 2 ∨ j = 3 ∨ j = 4 ∨ j = 5 := by omega
    rcases h3 with rfl | rfl | rfl <;> (simp [eL] at hi; subst hi; rcases h6' with rfl | rfl | rfl | rfl | rfl | rfl <;> (simp [opC] at hu; subst hu; rfl))
  have B1 : Hid (Below V.heap.size V ((V.alloc (.cells #[.string ⟨#[115, 101, 116]⟩, .int .i64 5, .int .i64 0, .int .i64 0, .int .u32 7, .int .i64 0, .string ⟨#[97, 100, 100]⟩, .int .i64 6, .int .i64 5, .int .i64 5, .int .u32 0, .int .i64 0, .string ⟨#[111, 117, 116]⟩, .int .i64 0, .int .i64 0, .int .i64 0, .int .u32 40, .int .i64 0] 92)).alloc (.cells #[.int .u32 0, .int .i64 1, .slice (some ⟨w.heap.size + 1, 0, none⟩) 3 3] 35))) := ((Below.refl _ _).alloc (Nat.le_refl _) _).alloc (by simp) _
  have hzU : ((V.alloc (.cells #[.string ⟨#[115, 101, 116]⟩, .int .i64 5, .int .i64 0, .int .i64 0, .int .u32 7, .int .i64 0, .string ⟨#[97, 100, 100]⟩, .int .i64 6, .int .i64 5, .int .i64 5, .int .u32 0, .int .i64 0, .string ⟨#[111, 117, 116]⟩, .int .i64 0, .int .i64 0, .int .i64 0, .int .u32 40, .int .i64 0] 92)).alloc (.cells #[.int .u32 0, .int .i64 1, .slice (some ⟨w.heap.size + 1, 0, none⟩) 3 3] 35)).heap.size = w.heap.size + 3 := by simp [hz0]
  have hzO : (V.alloc (.cells #[.string ⟨#[115, 101, 116]⟩, .int .i64 5, .int .i64 0, .int .i64 0, .int .u32 7, .int .i64 0, .string ⟨#[97, 100, 100]⟩, .int .i64 6, .int .i64 5, .int .i64 5, .int .u32 0, .int .i64 0, .string ⟨#[111, 117, 116]⟩, .int .i64 0, .int .i64 0, .int .i64 0, .int .u32 40, .int .i64 0] 92)).heap.size = w.heap.size + 1 + 1 := by simp [hz0]
  have k0 : ((V.alloc (.cells #[.string ⟨#[115, 101, 116]⟩, .int .i64 5, .int .i64 0, .int .i64 0, .int .u32 7, .int .i64 0, .string ⟨#[97, 100, 100]⟩, .int .i64 6, .int .i64 5, .int .i64 5, .int .u32 0, .int .i64 0, .string ⟨#[111, 117, 116]⟩, .int .i64 0, .int .i64 0, .int .i64 0, .int .u32 40, .int .i64 0] 92)).alloc (.cells #[.int .u32 0, .int .i64 1, .slice (some ⟨w.heap.size + 1, 0, none⟩) 3 3] 35)).cell? ⟨w.heap.size + 1 + 1, 0, none⟩ = some (.int .u32 0) := by rw [← hzO, cell_of_row _ _ _ _ _ _ (heap_alloc_new _ _)]; rfl
  have k1 : ((V.alloc (.cells #[.string ⟨#[115, 101, 116]⟩, .int .i64 5, .int .i64 0, .int .i64 0, .int .u32 7, .int .i64 0, .string ⟨#[97, 100, 100]⟩, .int .i64 6, .int .i64 5, .int .i64 5, .int .u32 0, .int .i64 0, .string ⟨#[111, 117, 116]⟩, .int .i64 0, .int .i64 0, .int .i64 0, .int .u32 40, .int .i64 0] 92)).alloc (.cells #[.int .u32 0, .int .i64 1, .slice (some ⟨w.heap.size + 1, 0, none⟩) 3 3] 35)).cell? ⟨w.heap.size + 1 + 1, 1, none⟩ = some (.int .i64 1) := by rw [← hzO, cell_of_row _ _ _ _ _ _ (heap_alloc_new _ _)]; rfl
  have k2 : ((V.alloc (.cells #[.string ⟨#[115, 101, 116]⟩, .int .i64 5, .int .i64 0, .int .i64 0, .int .u32 7, .int .i64 0, .string ⟨#[97, 100, 100]⟩, .int .i64 6, .int .i64 5, .int .i64 5, .int .u32 0, .int .i64 0, .string ⟨#[111, 117, 116]⟩, .int .i64 0, .int .i64 0, .int .i64 0, .int .u32 40, .int .i64 0] 92)).alloc (.cells #[.int .u32 0, .int .i64 1, .slice (some ⟨w.heap.size + 1, 0, none⟩) 3 3] 35)).cell? ⟨w.heap.size + 1 + 1, 2, none⟩ = some (.slice (some ⟨w.heap.size + 1, 0, none⟩) 3 3) := by rw [← hzO, cell_of_row _ _ _ _ _ _ (heap_alloc_new _ _)]; rfl
  clear hzO
  have hOps2 := hOps.stays ((Below.refl _ _).alloc (Nat.le_refl _) (.cells #[.int .u32 0, .int .i64 1, .slice (some ⟨w.heap.size + 1, 0, none⟩) 3 3] 35))
  generalize (V.alloc (.cells #[.string ⟨#[115, 101, 116]⟩, .int .i64 5, .int .i64 0, .int .i64 0, .int .u32 7, .int .i64 0, .string ⟨#[97, 100, 100]⟩, .int .i64 6, .int .i64 5, .int .i64 5, .int .u32 0, .int .i64 0, .string ⟨#[111, 117, 116]⟩, .int .i64 0, .int .i64 0, .int .i64 0, .int .u32 40, .int .i64 0] 92)).alloc (.cells #[.int .u32 0, .int .i64 1, .slice (some ⟨w.heap.size + 1, 0, none⟩) 3 3] 35) = U at *
  have BU : Hid (Below w.heap.size w U) := hB0.trans (B1.out.mono (by omega))
  have EU : Hid (Eg pe U) := E.stays BU.out
  have SU : Hid (StRow U w.heap.size eS) := hS0.stays B1.out
  have OU : Hid (OpsIn U (.slice (some ⟨w.heap.size + 1, 0, none⟩) 3 3) eL) := hOps2
  have hev : ∀ (W : World) (n : Nat), Below U.heap.size U W → RamIs W n (n + 1) (n + 2) (n + 3) 64 (mw []) (fun _ => false) (fun _ => false) → U.heap.size ≤ n → Calls Tryz.prog 16 #[.agg #[.int .u32 0, .int .i64 1, .slice (some ⟨w.heap.size + 1, 0, none⟩) 3 3], .pointer (some ⟨w.heap.size, 0, none⟩), .pointer (some ⟨n, 0, none⟩)] W fun e w' => e = .returned (.tuple #[.agg #[.bool false, .int .i64 0], .nilIface]) ∧ StRow w' w.heap.size (leftS eS eX 40 1) ∧ Below w.heap.size w w' ∧ (∀ (j : Nat) (u : Value), U.cell? ⟨w.heap.size + 1 + 1, j, none⟩ = some u → w'.cell? ⟨w.heap.size + 1 + 1, j, none⟩ = some u) ∧ W.heap.size ≤ w'.heap.size ∧ (∀ k, w.heap.size < k → k < W.heap.size → k ≠ n + 1 → k ≠ n + 3 → w'.heap[k]? = W.heap[k]?) := by
    intro W n hb R h1
    have hlt := ram_ltG R
    refine (ieval_ok pe (EU.out.stays hb) R (by decide) eS_ok (SU.out.stays hb) (by omega) (by omega) (by omega) (by omega) hlt.1 hlt.2.1 hlt.2.2.1 hlt.2.2.2 (OU.out.stays hb) 0 1 (by decide) (by decide) (by decide) (by decide) eL_fine rfl rfl rfl (by decide) (by decide)).mono ?_
    rintro e w' hpost
    rw [eRun] at hpost
    obtain ⟨rfl, S4, _, hz, hk, ho⟩ := hpost
    · skip
      have hzW := hb.size
      have bk : ∀ k, k < U.heap.size → k ≠ w.heap.size → w'.heap[k]? = U.heap[k]? := fun k hk' hn => (hk k (by omega) hn (by omega) (by omega)).trans (hb.block k hk')
      exact ⟨rfl, S4, ⟨ho.1.trans (hb.os.trans BU.out.os), ho.2.1.trans (hb.tape.trans BU.out.tape), ho.2.2.trans (hb.output.trans BU.out.output), by have := BU.out.size; omega, fun k hk' => (bk k (by omega) (by omega)).trans (BU.out.block k hk')⟩, fun j u h => (World.cell?_of_block (a := ⟨w.heap.size + 1 + 1, j, none⟩) (bk (w.heap.size + 1 + 1) (by omega) (by omega))).trans h, hz, fun k h2 h3 h4 h5 => hk k h3 (by omega) h4 h5⟩
  have hnew : ∀ (W : World) (n : Nat), W.heap.size = n → Below U.heap.size U W → Calls Tryz.prog 41 #[.slice none 0 0] W fun e w' => e = .returned (.pointer (some ⟨n, 0, none⟩)) ∧ RamIs w' n (n + 1) (n + 2) (n + 3) 64 (mw []) (fun _ => false) (fun _ => false) ∧ Below U.heap.size U w' ∧ Below W.heap.size W w' ∧ (∀ (j : Nat) (u : Value), U.cell? ⟨w.heap.size + 1 + 1, j, none⟩ = some u → w'.cell? ⟨w.heap.size + 1 + 1, j, none⟩ = some u) := by
    rintro W n rfl hb
    refine (new_any (w := W) (v := .slice none 0 0) (xs := []) ⟨⟨none, 0, rfl, Nat.le_refl _, fun h => by cases h⟩, fun i => ⟨by show (0 : Int) ≤ 0; decide, by show (0 : Int) < _; decide⟩⟩ (by decide)).mono ?_
    rintro e w' ⟨rfl, R, b⟩
    have hb' : Below U.heap.size U w' := hb.trans (b.mono hb.size)
    exact ⟨rfl, R, hb', b, fun j u h => (hb'.cell (p := ⟨w.heap.size + 1 + 1, j, none⟩) (show w.heap.size + 1 + 1 < U.heap.size by omega)).trans h⟩
  clear hS0 hB0 hOps hOps2 E
  refine wp_region_tree 7 (.step 0 1 (.fork 1 6 (.fork 2 6 (.step 3 0 (.step 4 0 (.step 5 0 (.step 6 2 (.step 7 2 (.step 8 0 .nil)))))) (.step 2 2 (.step 3 0 (.step 4 0 (.step 5 0 (.step 7 2 (.step 8 0 .nil))))))) (.step 1 2 (.step 2 2 (.step 3 0 (.step 4 0 (.step 5 0 (.step 7 2 (.step 8 0 .nil))))))))) (fun W => W.cell? ⟨w.heap.size + 1 + 1, 0, none⟩ = some (.int .u32 0) ∧ W.cell? ⟨w.heap.size + 1 + 1, 1, none⟩ = some (.int .i64 1) ∧ W.cell? ⟨w.heap.size + 1 + 1, 2, none⟩ = some (.slice (some ⟨w.heap.size + 1, 0, none⟩) 3 3)) (by kernel_rfl) (by kernel_rfl) (fun _ _ _ d _ h => by cases d <;> exact h) ⟨by simpa using k0, by simpa using k1, by simpa using k2⟩ ?_
  refine wpT_quiet (by rfl) (by rfl) (fun W hW => by (obtain ⟨z0, z1, z2⟩ := hW; go_simp; try with_reducible rfl)) (fun K hK => ?_)
  go_simp
  refine hK _ ?_
  clear hK K
  refine wpT_fork (by rfl) (by rfl) (by rfl) (by rfl) (fun K hK => ?_) (fun K hK => ?_)
  · go_simp
    refine (hnew (U.drew) (w.heap.size + 3) (by simp; omega) (below_drew (Below.refl _ _))).mono ?_
    rintro e w1 ⟨rfl, R1, b1, hb1, c1⟩
    have hz1 := b1.size
    refine hK _ _ (fun _ => ⟨c1 0 _ k0, c1 1 _ k1, c1 2 _ k2⟩) ?_
    clear hK K
    refine wpT_fork (by rfl) (by rfl) (by rfl) (by rfl) (fun K hK => ?_) (fun K hK => ?_)
    · go_simp
      refine (hev (w1) (w.heap.size + 3) b1 R1 (by omega)).mono ?_
      rintro e w2 ⟨rfl, S2, B2, c2, hz2, hk2⟩
      refine hK _ _ (fun _ => ⟨c2 0 _ k0, c2 1 _ k1, c2 2 _ k2⟩) ?_
      clear hK K
      repeat (refine wpT_free (by rfl) (by rfl) (fun W => by (go_simp; try with_reducible rfl)) (fun K hK => ?_); go_simp; refine hK _ ?_; clear hK K)
      refine wpT_serial (by rfl) (by rfl) (fun K hK => ?_)
      go_simp
      have b3 : Below w2.heap.size w2 (w2.alloc (.cells #[.bool false, .int .i64 0] 45)) := (Below.refl _ _).alloc (Nat.le_refl _) _
      have c3 : ∀ (j : Nat) (u : Value), U.cell? ⟨w.heap.size + 1 + 1, j, none⟩ = some u → (w2.alloc (.cells #[.bool false, .int .i64 0] 45)).cell? ⟨w.heap.size + 1 + 1, j, none⟩ = some u := fun j u h => (b3.cell (p := ⟨w.heap.size + 1 + 1, j, none⟩) (show w.heap.size + 1 + 1 < _ by omega)).trans (c2 j u h)
      refine hK _ _ (fun _ => ⟨c3 0 _ k0, c3 1 _ k1, c3 2 _ k2⟩) ?_
      clear hK K
      refine wpT_serial (by rfl) (by rfl) (fun K hK => ?_)
      go_simp
      refine hK _ _ (fun h => absurd h (by decide)) ?_
      clear hK K
      have hE : (w2.alloc (.cells #[.bool false, .int .i64 0] 45)).heap[w2.heap.size]? = some (.cells #[.bool false, .int .i64 0] 45) := heap_alloc_new _ _
      have S3 : StRow (w2.alloc (.cells #[.bool false, .int .i64 0] 45)) w.heap.size (leftS eS eX 40 1) := S2.stays b3
      have B3 : Below w.heap.size w (w2.alloc (.cells #[.bool false, .int .i64 0] 45)) := B2.trans (b3.mono B2.size)
      have hz3 := B3.size
      have d0 : (w2.alloc (.cells #[.bool false, .int .i64 0] 45)).cell? ⟨w2.heap.size, 0, none⟩ = some (.bool false) := by rw [cell_of_row _ _ _ _ _ _ hE]; rfl
      have d1 : (w2.alloc (.cells #[.bool false, .int .i64 0] 45)).cell? ⟨w2.heap.size, 1, none⟩ = some (.int .i64 0) := by rw [cell_of_row _ _ _ _ _ _ hE]; rfl
      have q6 : (w2.alloc (.cells #[.bool false, .int .i64 0] 45)).cell? ⟨w.heap.size, 6, none⟩ = some (.int .u32 14) := S3.cell (j := 6) (by decide)
      have q34 : (w2.alloc (.cells #[.bool false, .int .i64 0] 45)).cell? ⟨w.heap.size, 34, none⟩ = some (.int .u32 40) := S3.cell (j := 34) (by decide)
      have q35 : (w2.alloc (.cells #[.bool false, .int .i64 0] 45)).cell? ⟨w.heap.size, 35, none⟩ = some (.int .u32 44) := S3.cell (j := 35) (by decide)
      have q42 : (w2.alloc (.cells #[.bool false, .int .i64 0] 45)).cell? ⟨w.heap.size, 42, none⟩ = some (.int .i64 1) := S3.cell (j := 42) (by decide)
      generalize w2.alloc (.cells #[.bool false, .int .i64 0] 45) = W3 at *
      repeat (refine wpT_free (by rfl) (by rfl) (fun W => by (go_simp; try with_reducible rfl)) (fun K hK => ?_); go_simp; refine hK _ ?_; clear hK K)
      refine wpT_nil ?_
      go_wp2
      go_ret
      exact ⟨rfl, B3⟩
    · go_simp
      have b3 : Below w1.heap.size w1 (w1.alloc (.cells #[.bool false, .int .i64 0] 45)) := (Below.refl _ _).alloc (Nat.le_refl _) _
      have c3 : ∀ (j : Nat) (u : Value), U.cell? ⟨w.heap.size + 1 + 1, j, none⟩ = some u → (w1.alloc (.cells #[.bool false, .int .i64 0] 45)).cell? ⟨w.heap.size + 1 + 1, j, none⟩ = some u := fun j u h => (b3.cell (p := ⟨w.heap.size + 1 + 1, j, none⟩) (show w.heap.size + 1 + 1 < _ by omega)).trans (c1 j u h)
      refine hK _ _ (fun _ => ⟨c3 0 _ k0, c3 1 _ k1, c3 2 _ k2⟩) ?_
      clear hK K
      refine wpT_serial (by rfl) (by rfl) (fun K hK => ?_)
      go_simp
      refine (hev (w1.alloc (.cells #[.bool false, .int .i64 0] 45)) (w.heap.size + 3) (b1.trans (b3.mono b1.size)) (R1.stays b3 (Nat.le_refl _)) (by omega)).mono ?_
      rintro e w2 ⟨rfl, S2, B2, c2, hz2, hk2⟩
      refine hK _ _ (fun _ => ⟨c2 0 _ k0, c2 1 _ k1, c2 2 _ k2⟩) ?_
      clear hK K
      have hE : w2.heap[w1.heap.size]? = some (.cells #[.bool false, .int .i64 0] 45) := (hk2 w1.heap.size (by omega) (by simp) (by have := (ram_ltG R1).2.2.2; omega) (by have := (ram_ltG R1).2.2.2; omega)).trans (heap_alloc_new _ _)
      have S3 := S2
      have p0 : w2.cell? ⟨w1.heap.size, 0, none⟩ = some (.bool false) := by rw [cell_of_row _ _ _ _ _ _ hE]; rfl
      have p1 : w2.cell? ⟨w1.heap.size, 1, none⟩ = some (.int .i64 0) := by rw [cell_of_row _ _ _ _ _ _ hE]; rfl
      have f0 : w2.frozen? ⟨w1.heap.size, 0, none⟩ = false := frozen_of_row _ _ _ _ _ hE
      have f1 : w2.frozen? ⟨w1.heap.size, 1, none⟩ = false := frozen_of_row _ _ _ _ _ hE
      have s0 : w2.setCell ⟨w1.heap.size, 0, none⟩ (.bool false) = w2 := set_self hE rfl
      have s1 : w2.setCell ⟨w1.heap.size, 1, none⟩ (.int .i64 0) = w2 := set_self hE rfl
      repeat (refine wpT_free (by rfl) (by rfl) (fun W => by (go_simp; try with_reducible rfl)) (fun K hK => ?_); go_simp; refine hK _ ?_; clear hK K)
      refine wpT_serial (by rfl) (by rfl) (fun K hK => ?_)
      go_simp
      refine hK _ _ (fun h => absurd h (by decide)) ?_
      clear hK K
      have B3 : Below w.heap.size w (w2) := B2
      have hz3 := B3.size
      have d0 : (w2).cell? ⟨w1.heap.size, 0, none⟩ = some (.bool false) := by rw [cell_of_row _ _ _ _ _ _ hE]; rfl
      have d1 : (w2).cell? ⟨w1.heap.size, 1, none⟩ = some (.int .i64 0) := by rw [cell_of_row _ _ _ _ _ _ hE]; rfl
      have q6 : (w2).cell? ⟨w.heap.size, 6, none⟩ = some (.int .u32 14) := S3.cell (j := 6) (by decide)
      have q34 : (w2).cell? ⟨w.heap.size, 34, none⟩ = some (.int .u32 40) := S3.cell (j := 34) (by decide)
      have q35 : (w2).cell? ⟨w.heap.size, 35, none⟩ = some (.int .u32 44) := S3.cell (j := 35) (by decide)
      have q42 : (w2).cell? ⟨w.heap.size, 42, none⟩ = some (.int .i64 1) := S3.cell (j := 42) (by decide)
      generalize w2 = W3 at *
      repeat (refine wpT_free (by rfl) (by rfl) (fun W => by (go_simp; try with_reducible rfl)) (fun K hK => ?_); go_simp; refine hK _ ?_; clear hK K)
      refine wpT_nil ?_
      go_wp2
      go_ret
      exact ⟨rfl, B3⟩
  · go_simp
    have b4 : Below U.heap.size U (U.drew.alloc (.cells #[.bool false, .int .i64 0] 45)) := (below_drew (Below.refl _ _)).alloc (by simp) _
    have c4 : ∀ (j : Nat) (u : Value), U.cell? ⟨w.heap.size + 1 + 1, j, none⟩ = some u → (U.drew.alloc (.cells #[.bool false, .int .i64 0] 45)).cell? ⟨w.heap.size + 1 + 1, j, none⟩ = some u := fun j u h => (b4.cell (p := ⟨w.heap.size + 1 + 1, j, none⟩) (show w.heap.size + 1 + 1 < _ by omega)).trans h
    refine hK _ _ (fun _ => ⟨c4 0 _ k0, c4 1 _ k1, c4 2 _ k2⟩) ?_
    clear hK K
    refine wpT_serial (by rfl) (by rfl) (fun K hK => ?_)
    go_simp
    refine (hnew (U.drew.alloc (.cells #[.bool false, .int .i64 0] 45)) (w.heap.size + 3 + 1) (by simp; omega) b4).mono ?_
    rintro e w1 ⟨rfl, R1, b1, hb1, c1⟩
    have hz1 := b1.size
    refine hK _ _ (fun _ => ⟨c1 0 _ k0, c1 1 _ k1, c1 2 _ k2⟩) ?_
    clear hK K
    refine wpT_serial (by rfl) (by rfl) (fun K hK => ?_)
    go_simp
    refine (hev (w1) (w.heap.size + 3 + 1) b1 R1 (by omega)).mono ?_
    rintro e w2 ⟨rfl, S2, B2, c2, hz2, hk2⟩
    refine hK _ _ (fun _ => ⟨c2 0 _ k0, c2 1 _ k1, c2 2 _ k2⟩) ?_
    clear hK K
    have hE : w2.heap[w.heap.size + 3]? = some (.cells #[.bool false, .int .i64 0] 45) := (hk2 (w.heap.size + 3) (by omega) (by have := hb1.size; simp at this; omega) (by omega) (by omega)).trans ((hb1.block (w.heap.size + 3) (by simp; omega)).trans (by rw [← hzU]; exact heap_alloc_new U.drew _))
    have S3 := S2
    have p0 : w2.cell? ⟨w.heap.size + 3, 0, none⟩ = some (.bool false) := by rw [cell_of_row _ _ _ _ _ _ hE]; rfl
    have p1 : w2.cell? ⟨w.heap.size + 3, 1, none⟩ = some (.int .i64 0) := by rw [cell_of_row _ _ _ _ _ _ hE]; rfl
    have f0 : w2.frozen? ⟨w.heap.size + 3, 0, none⟩ = false := frozen_of_row _ _ _ _ _ hE
    have f1 : w2.frozen? ⟨w.heap.size + 3, 1, none⟩ = false := frozen_of_row _ _ _ _ _ hE
    have s0 : w2.setCell ⟨w.heap.size + 3, 0, none⟩ (.bool false) = w2 := set_self hE rfl
    have s1 : w2.setCell ⟨w.heap.size + 3, 1, none⟩ (.int .i64 0) = w2 := set_self hE rfl
    repeat (refine wpT_free (by rfl) (by rfl) (fun W => by (go_simp; try with_reducible rfl)) (fun K hK => ?_); go_simp; refine hK _ ?_; clear hK K)
    refine wpT_serial (by rfl) (by rfl) (fun K hK => ?_)
    go_simp
    refine hK _ _ (fun h => absurd h (by decide)) ?_
    clear hK K
    have B3 : Below w.heap.size w (w2) := B2
    have hz3 := B3.size
    have d0 : (w2).cell? ⟨w.heap.size + 3, 0, none⟩ = some (.bool false) := by rw [cell_of_row _ _ _ _ _ _ hE]; rfl
    have d1 : (w2).cell? ⟨w.heap.size + 3, 1, none⟩ = some (.int .i64 0) := by rw [cell_of_row _ _ _ _ _ _ hE]; rfl
    have q6 : (w2).cell? ⟨w.heap.size, 6, none⟩ = some (.int .u32 14) := S3.cell (j := 6) (by decide)
    have q34 : (w2).cell? ⟨w.heap.size, 34, none⟩ = some (.int .u32 40) := S3.cell (j := 34) (by decide)
    have q35 : (w2).cell? ⟨w.heap.size, 35, none⟩ = some (.int .u32 44) := S3.cell (j := 35) (by decide)
    have q42 : (w2).cell? ⟨w.heap.size, 42, none⟩ = some (.int .i64 1) := S3.cell (j := 42) (by decide)
    generalize w2 = W3 at *
    repeat (refine wpT_free (by rfl) (by rfl) (fun W => by (go_simp; try with_reducible rfl)) (fun K hK => ?_); go_simp; refine hK _ ?_; clear hK K)
    refine wpT_nil ?_
    go_wp2
    go_ret
    exact ⟨rfl, B3⟩
end Go.Proofs.YtjkencgcdlfjhaaGreatDoor
