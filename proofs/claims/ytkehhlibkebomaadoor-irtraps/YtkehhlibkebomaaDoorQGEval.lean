/-
  Package ir: Eval.
-/
import Derived.Test.YtkehhlibkebomaaDoorKOptFacts
import Derived.Test.YtkehhlibkebomaaDoorKGHost1
namespace Go.Proofs.YtkehhlibkebomaaDoor
open Go.RowKit Go.Maps
open Num
set_option linter.unusedVariables false
section
variable {w : World} {stb sb bp bw bh N : Nat} {m : Nat → Int} {wt ht : Int → Bool}
set_option maxRecDepth 100000 in
set_option maxHeartbeats 16000000 in
theorem ieval_ok (pe : Nat → Addr) (E : Eg pe w) (R : RamIs w sb bp bw bh N m wt ht) (hN : N ≤ 900000) {S : St} (ok : S.ok) (hS : StRow w stb S) (n1 : sb ≠ stb) (n2 : bp ≠ stb) (n3 : bw ≠ stb) (n4 : bh ≠ stb) (z1 : sb < w.heap.size) (z2 : bp < w.heap.size) (z3 : bw < w.heap.size) (z4 : bh < w.heap.size) {v : Value} {l : List Opx} (A : OpsIn w v l) (pc many : Int) (p0 : 0 ≤ pc) (p1 : pc < 4294967296) (m0 : -9223372036854775808 ≤ many) (m1 : many ≤ 9223372036854775807) (hf : codeF many l = (0, -1)) (hsl : S.sl = false) (hpc : S.pc = pc) (hnx : S.nx = lo (pc + 4)) (c0 : 0 ≤ S.ct) (c1 : S.ct ≤ 1152921504606846976) :
    Calls Tryd.prog 10 #[.agg #[.int .u32 pc, .int .i64 many, v], .pointer (some ⟨stb, 0, none⟩), .pointer (some ⟨sb, 0, none⟩)] w fun e w' => HPost w stb sb bp bw bh wt ht S many (run1 wt l (begX S) m) e w' := by
  have WL := codeF_well.1 hf
  have HOK : Hid (∀ o ∈ l, o.ok ∧ opE o many = 0) := fun o ho => ⟨A.ok o ho, wellL_mem WL.ops o ho⟩
  obtain ⟨ra, rc, hv, hcap, hh⟩ := A.sh
  subst hv
  have B0 : Below w.heap.size w ((w.alloc (.cells #[.int .u32 pc, .int .i64 many, .slice ra l.length rc] 35)).alloc (.cells #[.bool false, .int .i64 0] 40)) := ((Below.refl _ _).alloc (Nat.le_refl _) _).alloc (by simp) _
  have k0 : ((w.alloc (.cells #[.int .u32 pc, .int .i64 many, .slice ra l.length rc] 35)).alloc (.cells #[.bool false, .int .i64 0] 40)).cell? ⟨w.heap.size, 0, none⟩ = some (.int .u32 pc) := by simp
  have k1 : ((w.alloc (.cells #[.int .u32 pc, .int .i64 many, .slice ra l.length rc] 35)).alloc (.cells #[.bool false, .int .i64 0] 40)).cell? ⟨w.heap.size, 1, none⟩ = some (.int .i64 many) := by simp
  have k2 : ((w.alloc (.cells #[.int .u32 pc, .int .i64 many, .slice ra l.length rc] 35)).alloc (.cells #[.bool false, .int .i64 0] 40)).cell? ⟨w.heap.size, 2, none⟩ = some (.slice ra l.length rc) := by simp
  have e0 : ((w.alloc (.cells #[.int .u32 pc, .int .i64 many, .slice ra l.length rc] 35)).alloc (.cells #[.bool false, .int .i64 0] 40)).cell? ⟨w.heap.size + 1, 0, none⟩ = some (.bool false) := by simp
  have e1 : ((w.alloc (.cells #[.int .u32 pc, .int .i64 many, .slice ra l.length rc] 35)).alloc (.cells #[.bool false, .int .i64 0] 40)).cell? ⟨w.heap.size + 1, 1, none⟩ = some (.int .i64 0) := by simp
  have ef : ∀ j, ((w.alloc (.cells #[.int .u32 pc, .int .i64 many, .slice ra l.length rc] 35)).alloc (.cells #[.bool false, .int .i64 0] 40)).frozen? ⟨w.heap.size + 1, j, none⟩ = false := fun j => by
    rw [show w.heap.size + 1 = (w.alloc (.cells #[.int .u32 pc, .int .i64 many, .slice ra l.length rc] 35)).heap.size by simp]; exact World.frozen?_alloc_at _ _ _ _ rfl
  have hsz0 : ((w.alloc (.cells #[.int .u32 pc, .int .i64 many, .slice ra l.length rc] 35)).alloc (.cells #[.bool false, .int .i64 0] 40)).heap.size = w.heap.size + 2 := by simp
  have hlen := WL.len
  have hck := ccheck_ok pe (E.stays B0) (A.stays B0) (by omega) pc many m0 m1 hf
  have HE : Hid (∀ W, Below w.heap.size w W → Eg pe W) := fun W hW => E.stays hW
  have HR : Hid (∀ W, Below w.heap.size w W → RamIs W sb bp bw bh N m wt ht) := fun W hW => R.stays hW (Nat.le_refl _)
  have HS : Hid (∀ W, Below w.heap.size w W → StRow W stb S) := fun W hW => hS.stays hW
  have HH : Hid (0 < l.length → ∃ b off : Nat, ra = some ⟨b, off, none⟩ ∧ ∀ (i : Nat) (o : Opx), l[i]? = some o → ∀ (j : Nat) (u : Value), (opC o)[j]? = some u → w.cell? ⟨b, off + i * 6 + j, none⟩ = some u) := hh
  have HXB : Hid (∀ j, u32 (begX S j)) := begX_u ok
  have hstl := hS.lt
  have hmbd := R.mb
  have HMB : Hid (∀ i, 0 ≤ m i ∧ m i < 4294967296) := hmbd
  have hB00 : Hid (Below w.heap.size w ((w.alloc (.cells #[.int .u32 pc, .int .i64 many, .slice ra l.length rc] 35)).alloc (.cells #[.bool false, .int .i64 0] 40))) := B0
  have HBG : Hid (S.sl = false ∧ S.pc = pc ∧ S.nx = lo (pc + 4)) := ⟨hsl, hpc, hnx⟩
  have m0' := WL.m0
  have m1' := WL.m1
  obtain ⟨Z, hZ⟩ : ∃ Z, run1 wt l (begX S) m = Z := ⟨_, rfl⟩
  have HZ : Hid (run1 wt l (begX S) m = Z) := hZ
  rw [hZ]
  clear hZ hf WL E R hS A hsl hpc hnx hh ok B0 hmbd hcap
  go_enter Tryd.func10, Tryd.ntmps10
  go_upto_region 3 with fail
  generalize ((w.alloc (.cells #[.int .u32 pc, .int .i64 many, .slice ra l.length rc] 35)).alloc (.cells #[.bool false, .int .i64 0] 40)) = V at *
  go_wp2_with fail
  refine hck.mono ?_
  rintro e w1 ⟨rfl, hb1⟩
  have hBw1 : Hid (Below w.heap.size w w1) := hB00.out.trans (hb1.mono (by omega))
  have q0 := (hb1.cell (p := ⟨w.heap.size, 0, none⟩) (show w.heap.size < V.heap.size by omega)).trans k0
  have q1 := (hb1.cell (p := ⟨w.heap.size, 1, none⟩) (show w.heap.size < V.heap.size by omega)).trans k1
  have q2 := (hb1.cell (p := ⟨w.heap.size, 2, none⟩) (show w.heap.size < V.heap.size by omega)).trans k2
  have qe0 := (hb1.cell (p := ⟨w.heap.size + 1, 0, none⟩) (show w.heap.size + 1 < V.heap.size by omega)).trans e0
  have qe1 := (hb1.cell (p := ⟨w.heap.size + 1, 1, none⟩) (show w.heap.size + 1 < V.heap.size by omega)).trans e1
  have qef : ∀ j, w1.frozen? ⟨w.heap.size + 1, j, none⟩ = false := fun j => (hb1.frozen (p := ⟨w.heap.size + 1, j, none⟩) (show w.heap.size + 1 < V.heap.size by omega)).trans (ef j)
  have hsz1 : w.heap.size + 2 ≤ w1.heap.size := by have := hb1.size; omega
  clear hck hb1 k0 k1 k2 e0 e1 ef hsz0 hB00
  have hbg := begin_ok (sb := sb) (HS.out w1 hBw1.out) pc p0 p1 HBG.out.1 HBG.out.2.1 HBG.out.2.2
  have hw0 : w.heap.size < w1.heap.size := by omega
  go_wp2_with fail
  refine hbg.mono ?_
  rintro e w2 ⟨mb, rfl, hmb, hGR, hb2⟩
  generalize hbase : w1.heap.size = base at *
  have hBB : Hid (Below base w1 w2) := hb2
  have HG2 : Hid (GAt w2 base mb stb sb (begX S) [] (.slice none 0 0)) := hGR.gat hmb HXB.out (by have := hb2.size; omega)
  have HCX : Hid (∀ W, Below base w1 W → Below w.heap.size w W) := fun W hW => hBw1.out.trans (hW.mono (by omega))
  have HC : Hid (∀ W, Below base w1 W → W.cell? ⟨w.heap.size, 1, none⟩ = some (.int .i64 many) ∧ W.cell? ⟨w.heap.size, 2, none⟩ = some (.slice ra l.length rc) ∧ W.cell? ⟨w.heap.size + 1, 0, none⟩ = some (.bool false) ∧ W.cell? ⟨w.heap.size + 1, 1, none⟩ = some (.int .i64 0) ∧ (∀ j, W.frozen? ⟨w.heap.size + 1, j, none⟩ = false) ∧ base ≤ W.heap.size) := fun W hW => ⟨(hW.cell (p := ⟨w.heap.size, 1, none⟩) hw0).trans q1, (hW.cell (p := ⟨w.heap.size, 2, none⟩) hw0).trans q2, (hW.cell (p := ⟨w.heap.size + 1, 0, none⟩) (show w.heap.size + 1 < base by omega)).trans qe0, (hW.cell (p := ⟨w.heap.size + 1, 1, none⟩) (show w.heap.size + 1 < base by omega)).trans qe1, fun j => (hW.frozen (p := ⟨w.heap.size + 1, j, none⟩) (show w.heap.size + 1 < base by omega)).trans (qef j), by have := hW.size; omega⟩
  clear hbg hGR hb2 q0 q1 q2 qe0 qe1 qef
  obtain ⟨d1, d2, d3, d4, d5, d6⟩ := HC.out w2 hBB.out
  have d7 := World.block_lt_of_cell? _ _ d2
  go_wp2
  clear d1 d2 d3 d4 d5 d6 d7
  go_loopw [46] (fun i wr => ∃ (j : Nat) (x m' : Nat → Int) (pj : List Pq) (vj : Value), j ≤ l.length ∧ i = .int .i64 j ∧ Hid (vw m (pqs pj) = m' ∧ pj.length ≤ j ∧ (∀ q ∈ pqs pj, wt (q.a / 256) = false)) ∧ Hid (run1 wt (l.drop j) x m' = Z) ∧ GAt wr base mb stb sb x pj vj ∧ Below base w1 wr) (fun i _ => l.length - (intOf i).toNat)
  case atStart => exact ⟨0, begX S, m, [], .slice none 0 0, Nat.zero_le _, rfl, ⟨rfl, by simp, by intro q hq; cases hq⟩, HZ.out, HG2.out, hBB.out⟩
  case round =>
    obtain ⟨j, x, m', pj, vj, hj, rfl, HP, HZJ, hG, hB⟩ := hrel
    have HGJ : Hid (GAt wr base mb stb sb x pj vj) := hG
    have HBJ : Hid (Below base w1 wr) := hB
    obtain ⟨d1, d2, d3, d4, d5, d6⟩ := HC.out wr hB
    have d7 := World.block_lt_of_cell? _ _ d2
    have d8 := World.block_lt_of_cell? _ _ d3
    clear hG hB HG2 hBB
    by_cases hlt : j < l.length
    · obtain ⟨o, ho⟩ : ∃ q, l[j]? = some q := ⟨_, List.getElem?_eq_getElem hlt⟩
      have hom := List.mem_of_getElem? ho
      obtain ⟨hok, hop⟩ := HOK.out o hom
      obtain ⟨b, off, rfl, hcell⟩ := HH.out (by omega)
      obtain ⟨x0, x1, x2, x3, x4, x5⟩ := op_cells (w := wr) (fun k u hk => by rw [(HCX.out wr HBJ.out).cell (World.block_lt_of_cell? _ _ (hcell j o ho k u hk))]; exact hcell j o ho k u hk)
      have zb := World.block_lt_of_cell? _ _ x0
      have hlt' : (j : Int) < l.length := by omega
      have HDR : Hid (l.drop j = o :: l.drop (j + 1)) := by
        show _ = _
        rw [List.drop_eq_getElem_cons hlt]
        have := (List.getElem?_eq_some_iff.1 ho).2
        rw [this]
      have hpl : pj.length ≤ 1000 := by have := HP.out.2.1; omega
      have hB1 : Hid (Below wr.heap.size wr (wr.alloc (.cells #[.string o.s, .int .i64 o.d, .int .i64 o.a, .int .i64 o.b, .int .u32 o.i, .int .i64 o.t] 53))) := (Below.refl _ _).alloc (Nat.le_refl _) _
      have hBA : Below base w1 (wr.alloc (.cells #[.string o.s, .int .i64 o.d, .int .i64 o.a, .int .i64 o.b, .int .u32 o.i, .int .i64 o.t] 53)) := HBJ.out.trans (hB1.out.mono d6)
      have hrd := read_any pe (HE.out _ (HCX.out _ hBA)) (HR.out _ (HCX.out _ hBA)) (HGJ.out.opened (.cells #[.string o.s, .int .i64 o.d, .int .i64 o.a, .int .i64 o.b, .int .u32 o.i, .int .i64 o.t] 53)) hpl o hok many hop
      rw [HP.out.1] at hrd
      have c5 : (wr.alloc (.cells #[.string o.s, .int .i64 o.d, .int .i64 o.a, .int .i64 o.b, .int .u32 o.i, .int .i64 o.t] 53)).cell? ⟨wr.heap.size, 5, none⟩ = some (.int .i64 o.t) := by simp
      have c0' : (wr.alloc (.cells #[.string o.s, .int .i64 o.d, .int .i64 o.a, .int .i64 o.b, .int .u32 o.i, .int .i64 o.t] 53)).cell? ⟨wr.heap.size, 0, none⟩ = some (.string o.s) := by simp
      have c1' : (wr.alloc (.cells #[.string o.s, .int .i64 o.d, .int .i64 o.a, .int .i64 o.b, .int .u32 o.i, .int .i64 o.t] 53)).cell? ⟨wr.heap.size, 1, none⟩ = some (.int .i64 o.d) := by simp
      have c2 : (wr.alloc (.cells #[.string o.s, .int .i64 o.d, .int .i64 o.a, .int .i64 o.b, .int .u32 o.i, .int .i64 o.t] 53)).cell? ⟨wr.heap.size, 2, none⟩ = some (.int .i64 o.a) := by simp
      have c3 : (wr.alloc (.cells #[.string o.s, .int .i64 o.d, .int .i64 o.a, .int .i64 o.b, .int .u32 o.i, .int .i64 o.t] 53)).cell? ⟨wr.heap.size, 3, none⟩ = some (.int .i64 o.b) := by simp
      have c4 : (wr.alloc (.cells #[.string o.s, .int .i64 o.d, .int .i64 o.a, .int .i64 o.b, .int .u32 o.i, .int .i64 o.t] 53)).cell? ⟨wr.heap.size, 4, none⟩ = some (.int .u32 o.i) := by simp
      have HRC : Hid (run1 wt (o :: l.drop (j + 1)) x m' = if (resZ wt x m' o).trap = true then .trap o.t else if (appZ ⟨x, m', -1⟩ o (resZ wt x m' o)).lv < 0 then run1 wt (l.drop (j + 1)) (appZ ⟨x, m', -1⟩ o (resZ wt x m' o)).x (appZ ⟨x, m', -1⟩ o (resZ wt x m' o)).m else .leave (appZ ⟨x, m', -1⟩ o (resZ wt x m' o))) := run1_cons wt o _ x m'
      have hmb' : ∀ i, 0 ≤ m' i ∧ m' i < 4294967296 := by rw [← HP.out.1]; exact vw_bd HMB.out (pqs pj) (pq_ok pj)
      have HEO : Hid ((resZ wt x m' o).trap = false → EfOk wt o (resZ wt x m' o) (efO o (resZ wt x m' o))) := fun ht => efOk hop hok (fun i _ => HGJ.out.xb i) hmb' ht
      have HAB : Hid (u32 (resZ wt x m' o).a) := (resZ_bd (wt := wt) hok hop (fun i _ => HGJ.out.xb i) hmb').2
      unfold opV at hrd
      generalize resZ wt x m' o = ro at *
      clear hcell ho hom hok hop hmb' hBA HOK HH
      go_upto_region 12 with fail
      generalize hWW : wr.alloc (.cells #[.string o.s, .int .i64 o.d, .int .i64 o.a, .int .i64 o.b, .int .u32 o.i, .int .i64 o.t] 53) = W1 at *
      have hsz1' : W1.heap.size = wr.heap.size + 1 := by rw [← hWW, World.size_alloc]
      clear hWW x0 x1 x2 x3 x4 x5 d1 d2 d7 zb
      go_wp2_with fail
      refine hrd.mono ?_
      rintro e w3 ⟨⟨E, rfl, hE⟩, hb3⟩
      have hBw3 : Hid (Below wr.heap.size wr w3) := hB1.out.trans (hb3.mono (by omega))
      have k5 : w3.cell? ⟨wr.heap.size, 5, none⟩ = some (.int .i64 o.t) := (hb3.cell (p := ⟨wr.heap.size, 5, none⟩) (show wr.heap.size < W1.heap.size by omega)).trans c5
      have hsz3 : wr.heap.size < w3.heap.size := by have := hb3.size; omega
      unfold efA
      have hB3 : Hid (Below wr.heap.size wr (w3.alloc (.cells #[.int .i64 E.r, .int .u32 E.v, .int .u32 E.a, .int .i64 E.s, .int .u32 E.sv, .bool E.lv, .int .u32 E.to] 62))) := hBw3.out.alloc (by omega) _
      have hBB3 : Hid (Below base w1 (w3.alloc (.cells #[.int .i64 E.r, .int .u32 E.v, .int .u32 E.a, .int .i64 E.s, .int .u32 E.sv, .bool E.lv, .int .u32 E.to] 62))) := HBJ.out.trans (hB3.out.mono d6)
      have j5 : (w3.alloc (.cells #[.int .i64 E.r, .int .u32 E.v, .int .u32 E.a, .int .i64 E.s, .int .u32 E.sv, .bool E.lv, .int .u32 E.to] 62)).cell? ⟨wr.heap.size, 5, none⟩ = some (.int .i64 o.t) := (World.grownBy_alloc w3 _ none).cell k5 (by simp)
      have f0 : (w3.alloc (.cells #[.int .i64 E.r, .int .u32 E.v, .int .u32 E.a, .int .i64 E.s, .int .u32 E.sv, .bool E.lv, .int .u32 E.to] 62)).cell? ⟨w3.heap.size, 0, none⟩ = some (.int .i64 E.r) := by simp
      have f1 : (w3.alloc (.cells #[.int .i64 E.r, .int .u32 E.v, .int .u32 E.a, .int .i64 E.s, .int .u32 E.sv, .bool E.lv, .int .u32 E.to] 62)).cell? ⟨w3.heap.size, 1, none⟩ = some (.int .u32 E.v) := by simp
      have f2 : (w3.alloc (.cells #[.int .i64 E.r, .int .u32 E.v, .int .u32 E.a, .int .i64 E.s, .int .u32 E.sv, .bool E.lv, .int .u32 E.to] 62)).cell? ⟨w3.heap.size, 2, none⟩ = some (.int .u32 E.a) := by simp
      have f3 : (w3.alloc (.cells #[.int .i64 E.r, .int .u32 E.v, .int .u32 E.a, .int .i64 E.s, .int .u32 E.sv, .bool E.lv, .int .u32 E.to] 62)).cell? ⟨w3.heap.size, 3, none⟩ = some (.int .i64 E.s) := by simp
      have f4 : (w3.alloc (.cells #[.int .i64 E.r, .int .u32 E.v, .int .u32 E.a, .int .i64 E.s, .int .u32 E.sv, .bool E.lv, .int .u32 E.to] 62)).cell? ⟨w3.heap.size, 4, none⟩ = some (.int .u32 E.sv) := by simp
      have f5 : (w3.alloc (.cells #[.int .i64 E.r, .int .u32 E.v, .int .u32 E.a, .int .i64 E.s, .int .u32 E.sv, .bool E.lv, .int .u32 E.to] 62)).cell? ⟨w3.heap.size, 5, none⟩ = some (.bool E.lv) := by simp
      have f6 : (w3.alloc (.cells #[.int .i64 E.r, .int .u32 E.v, .int .u32 E.a, .int .i64 E.s, .int .u32 E.sv, .bool E.lv, .int .u32 E.to] 62)).cell? ⟨w3.heap.size, 6, none⟩ = some (.int .u32 E.to) := by simp
      have HG3 : Hid (GAt (w3.alloc (.cells #[.int .i64 E.r, .int .u32 E.v, .int .u32 E.a, .int .i64 E.s, .int .u32 E.sv, .bool E.lv, .int .u32 E.to] 62)) base mb stb sb x pj vj) := HGJ.out.stays hB3.out
      clear hrd hb3 c0' c1' c2 c3 c4 c5 hB1 hsz1' d3 d4 d5 d8 k5
      cases htr : ro.trap with
      | true =>
        have HZT : Hid (Z = .trap o.t) := by show _ = _; rw [← HZJ.out, HDR.out, HRC.out, if_pos htr]
        clear f0 f1 f2 f3 f4 f5 f6 hE HRC HEO HAB
        go_upto_region 14 with fail
        generalize w3.alloc (.cells #[.int .i64 E.r, .int .u32 E.v, .int .u32 E.a, .int .i64 E.s, .int .u32 E.sv, .bool E.lv, .int .u32 E.to] 62) = A at *
        obtain ⟨d1, d2, d3, d4, d5, d6⟩ := HC.out A hBB3.out
        have d7 := World.block_lt_of_cell? _ _ d3
        have zg := World.block_lt_of_cell? _ _ j5
        go_wp2
        obtain ⟨j0, j1⟩ := end_putG d3 d4 (.bool true) (.int .i64 o.t)
        refine bodyPost_ret (results_cell1G (A := ⟨w.heap.size + 1, 0, none⟩) rfl _ _ _ rfl (end_loadG j0 j1)) rfl ?_
        rw [HZT.out]
        exact ⟨rfl, ((HCX.out A hBB3.out).setCell (p := ⟨w.heap.size + 1, 0, none⟩) (by show w.heap.size ≤ w.heap.size + 1; omega) _).setCell (p := ⟨w.heap.size + 1, 1, none⟩) (by show w.heap.size ≤ w.heap.size + 1; omega) _⟩
      | false =>
        have hEE := hE htr
        have hEo := HEO.out htr
        rw [← hEE] at hEo
        have HEH : Hid (EfOk wt o ro E) := hEo
        have HWR : Hid (Z = if (appZ ⟨x, m', -1⟩ o ro).lv < 0 then run1 wt (l.drop (j + 1)) (appZ ⟨x, m', -1⟩ o ro).x (appZ ⟨x, m', -1⟩ o ro).m else .leave (appZ ⟨x, m', -1⟩ o ro)) := by show _ = _; rw [← HZJ.out, HDR.out, HRC.out, if_neg (by rw [htr]; decide)]
        have hdo := do_any HG3.out (by have := HP.out.2.1; omega) E hEo.r0 hEo.r1 hEo.v hEo.s
        unfold efA at hdo
        clear hE hEE hEo HRC HEO j5
        go_upto_region 15 with fail
        have zf := World.block_lt_of_cell? _ _ f0
        have hsA : base ≤ (w3.alloc (.cells #[.int .i64 E.r, .int .u32 E.v, .int .u32 E.a, .int .i64 E.s, .int .u32 E.sv, .bool E.lv, .int .u32 E.to] 62)).heap.size := (HC.out _ hBB3.out).2.2.2.2.2
        generalize w3.alloc (.cells #[.int .i64 E.r, .int .u32 E.v, .int .u32 E.a, .int .i64 E.s, .int .u32 E.sv, .bool E.lv, .int .u32 E.to] 62) = A at *
        go_wp2_with fail
        refine hdo.mono ?_
        rintro e w4 ⟨rfl, p4, v4, hpq, hpl4, hG4, hM4, hK4⟩
        have hBB4 : Hid (Below base w1 w4) := Kx.belowB hBB3.out hK4 HG3.out.lb (fun i hi => (HG3.out.blk i hi).2) (by omega)
        have HG4 : Hid (GAt w4 base mb stb sb (appZ ⟨x, m', -1⟩ o ro).x p4 v4) := by
          have := HEH.out.x x m' (-1)
          rw [← this]; exact hG4
        have HP4 : Hid (vw m (pqs p4) = (appZ ⟨x, m', -1⟩ o ro).m ∧ p4.length ≤ j + 1 ∧ (∀ q ∈ pqs p4, wt (q.a / 256) = false)) := by
          obtain ⟨a1, a2, a3⟩ := HP.out
          refine ⟨?_, by omega, fun q hq => ?_⟩
          · rw [hpq, HEH.out.m m (pqs pj) x (-1), a1]
          · rw [hpq] at hq
            unfold doP at hq
            split at hq
            · exact a3 q hq
            · rename_i hs
              rcases List.mem_append.1 hq with h | h
              · exact a3 q h
              · rw [List.mem_singleton.1 h]; exact HEH.out.w hs
        have HLV : Hid ((appZ ⟨x, m', -1⟩ o ro).lv = if ro.leave = true then ro.a else -1) := rfl
        clear hdo hK4 hG4 hM4 f0 f1 f2 f3 f4 f5 f6 hpq hpl4 zf hsA
        generalize appZ ⟨x, m', -1⟩ o ro = Zr at *
        obtain ⟨d1, d2, d3, d4, d5, d6⟩ := HC.out w4 hBB4.out
        have d7 := World.block_lt_of_cell? _ _ d2
        have d8 := World.block_lt_of_cell? _ _ d3
        cases hlv : ro.leave with
        | false =>
          have e1 : E.lv = false := HEH.out.lv.trans hlv
          have HL2 : Hid (Zr.lv = -1) := by show _ = _; rw [HLV.out, hlv]; rfl
          have HZN : Hid (run1 wt (l.drop (j + 1)) Zr.x Zr.m = Z) := by show _ = _; rw [HWR.out, if_pos (by rw [HL2.out]; decide)]
          rw [e1]
          clear e1 HLV HWR HAB HEH
          go_wp2
          go_roundw
          case rel => exact ⟨j + 1, Zr.x, Zr.m, p4, v4, by omega, by go_num, HP4.out, HZN.out, HG4.out, hBB4.out⟩
          case measure => simp [intOf]; omega
        | true =>
          have e1 : E.lv = true := HEH.out.lv.trans hlv
          have e2 : E.to = ro.a := HEH.out.to hlv
          have HL2 : Hid (Zr.lv = ro.a) := by show _ = _; rw [HLV.out, hlv]; rfl
          have hlu : u32 ro.a := HAB.out
          have HZN : Hid (Z = .leave Zr) := by show _ = _; rw [HWR.out, if_neg (by rw [HL2.out]; have := hlu.1; omega)]
          rw [e1, e2]
          clear e1 e2 HLV HWR HAB HEH
          have hle := leave_any (N := N) (HR.out w4 (HCX.out w4 hBB4.out)) HG4.out (HS.out w4 (HCX.out w4 hBB4.out)) (by have := HP4.out.2.1; omega) (by omega) (by omega) (by omega) (by omega) n1 n2 n3 n4 HP4.out.2.2 ro.a many hlu.1 hlu.2 c0 c1 m0' m1'
          rw [HP4.out.1] at hle
          go_wp2_with fail
          refine hle.mono ?_
          rintro e w5 ⟨rfl, hS5, hR5, hs5, hf5, ho5⟩
          have hne : w.heap.size + 1 ≠ stb ∧ w.heap.size + 1 ≠ bp ∧ w.heap.size + 1 ≠ bh := by omega
          have hbk := hf5 (w.heap.size + 1) d8 hne.1 hne.2.1 hne.2.2
          have r0 := (World.cell?_of_block (a := ⟨w.heap.size + 1, 0, none⟩) hbk).trans d3
          have r1 := (World.cell?_of_block (a := ⟨w.heap.size + 1, 1, none⟩) hbk).trans d4
          have rf : ∀ k, w5.frozen? ⟨w.heap.size + 1, k, none⟩ = false := fun k => (World.frozen?_of_block (a := ⟨w.heap.size + 1, k, none⟩) hbk).trans (d5 k)
          have r8 := World.block_lt_of_cell? _ _ r0
          have HS5 : Hid (StRow w5 stb (leftS S Zr.x Zr.lv many)) := by rw [HL2.out]; exact hS5
          have HR5 : Hid (RamIs w5 sb bp bw bh (N + 2 * p4.length) Zr.m wt ht) := hR5
          have HF5 : Hid (∀ k, k < w.heap.size → k ≠ stb → k ≠ bp → k ≠ bh → w5.heap[k]? = w.heap[k]?) := fun k hk k1 k2 k3 => (hf5 k (by omega) k1 k2 k3).trans ((HCX.out w4 hBB4.out).block k hk)
          have HO5 : Hid (w5.os = w.os ∧ w5.tape = w.tape ∧ w5.output = w.output) := ⟨ho5.1.trans (HCX.out w4 hBB4.out).os, ho5.2.1.trans (HCX.out w4 hBB4.out).tape, ho5.2.2.trans (HCX.out w4 hBB4.out).output⟩
          clear hle hS5 hR5 hf5 ho5 hbk d1 d2 d3 d4 d5 d7 d8
          go_wp2
          obtain ⟨j0, j1⟩ := end_putG r0 r1 (.bool false) (.int .i64 0)
          have hoth : ∀ k, k ≠ w.heap.size + 1 → ((w5.setCell ⟨w.heap.size + 1, 0, none⟩ (.bool false)).setCell ⟨w.heap.size + 1, 1, none⟩ (.int .i64 0)).heap[k]? = w5.heap[k]? := fun k hk => (Below.heap_setCell _ ⟨w.heap.size + 1, 1, none⟩ _ k hk).trans (Below.heap_setCell _ ⟨w.heap.size + 1, 0, none⟩ _ k hk)
          refine bodyPost_ret (results_cell1G (A := ⟨w.heap.size + 1, 0, none⟩) rfl _ _ _ rfl (end_loadG j0 j1)) rfl ?_
          rw [HZN.out]
          exact ⟨rfl, HS5.out.block (hoth stb (by omega)), ⟨_, by have := HP4.out.2.1; omega, HR5.out.turn1 (w.heap.size + 1) (by omega) (by omega) (by omega) (by omega) hoth⟩, by simp; omega, fun k hk k1 k2 k3 => (hoth k (by omega)).trans (HF5.out k hk k1 k2 k3), HO5.out⟩
    · obtain rfl : j = l.length := by omega
      have HZN : Hid (Z = .fell) := by show _ = _; rw [← HZJ.out, List.drop_length]; rfl
      go_wp2
      obtain ⟨j0, j1⟩ := end_putG d3 d4 (.bool true) (.int .i64 0)
      refine bodyPost_ret (results_cell1G (A := ⟨w.heap.size + 1, 0, none⟩) rfl _ _ _ rfl (end_loadG j0 j1)) rfl ?_
      rw [HZN.out]
      exact ⟨rfl, ((HCX.out wr HBJ.out).setCell (p := ⟨w.heap.size + 1, 0, none⟩) (by show w.heap.size ≤ w.heap.size + 1; omega) _).setCell (p := ⟨w.heap.size + 1, 1, none⟩) (by show w.heap.size ≤ w.heap.size + 1; omega) _⟩
end
end Go.Proofs.YtkehhlibkebomaaDoor
