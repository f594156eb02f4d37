/-
  Package host: Run.
-/
import Derived.Test.YtflagpkmebdckaaGreatDoorKSerial
import Derived.Test.YtflagpkmebdckaaGreatDoorKRowsI
import Derived.Test.YtflagpkmebdckaaGreatDoorKMk6
import Derived.Test.YtflagpkmebdckaaGreatDoorKGEf
import Derived.Test.YtflagpkmebdckaaGreatDoorKLw7
namespace Go.Proofs.YtflagpkmebdckaaGreatDoor
open Go.RowKit Go.Maps
open Num
set_option linter.unusedVariables false
theorem Kx.belowB {W0 wr w' : World} {base mb : Nat} {vj : Value} (h : Below base W0 wr) (k : Kx wr w' mb vj) (hmb : base ≤ mb) (hv : ∀ i, vj.ownBlock = some i → base ≤ i) (hs : base ≤ W0.heap.size) : Below base W0 w' :=
  ⟨k.os.trans h.os, k.tape.trans h.tape, k.output.trans h.output, Nat.le_trans h.size k.size, fun i hi => (k.block i (Nat.lt_of_lt_of_le hi (Nat.le_trans hs h.size)) (by omega) (fun e => by have := hv i e; omega)).trans (h.block i hi)⟩
/-- how a plan's run ends -/
def HPost (w : World) (stb sb bp bw bh : Nat) (wt ht : Int → Bool) (S : St) (many : Int) : Oz → Ending → World → Prop
  | .trap t, e, w' => e = .returned (.tuple #[.agg #[.bool true, .int .i64 t], .nilIface]) ∧ Below w.heap.size w w'
  | .fell, e, w' => e = .returned (.tuple #[.agg #[.bool true, .int .i64 0], .nilIface]) ∧ Below w.heap.size w w'
  | .leave M, e, w' => e = .returned (.tuple #[.agg #[.bool false, .int .i64 0], .nilIface]) ∧ StRow w' stb (leftS S M.x M.lv many) ∧ (∃ N', N' ≤ 1000000 ∧ RamIs w' sb bp bw bh N' M.m wt ht) ∧ w.heap.size ≤ w'.heap.size ∧ (∀ k, k < w.heap.size → k ≠ stb → k ≠ bp → k ≠ bh → w'.heap[k]? = w.heap[k]?) ∧ w'.os = w.os ∧ w'.tape = w.tape ∧ w'.output = w.output
theorem begX_u {S : St} (ok : S.ok) : ∀ j, u32 (begX S j) := by
  intro j; unfold begX
  split
  · exact ok.r j
  · split
    · exact ok.hi
    · split
      · exact ok.lo
      · exact ⟨by omega, by omega⟩
section
variable {w : World} {stb sb bp bw bh N : Nat} {m : Nat → Int} {wt ht : Int → Bool}
set_option maxRecDepth 100000 in
set_option maxHeartbeats 16000000 in
theorem hrun_ok (pe : Nat → Addr) (E : Ep pe w) (R : RamIs w sb bp bw bh N m wt ht) (hN : N ≤ 900000) {S : St} (ok : S.ok) (hS : StRow w stb S) (n1 : sb ≠ stb) (n2 : bp ≠ stb) (n3 : bw ≠ stb) (n4 : bh ≠ stb) (z1 : sb < w.heap.size) (z2 : bp < w.heap.size) (z3 : bw < w.heap.size) (z4 : bh < w.heap.size) {v : Value} {rs : List (List Opx)} (RI : RowsI w v rs) (F : Few rs) (pc many : Int) (p0 : 0 ≤ pc) (p1 : pc < 4294967296) (m0 : -9223372036854775808 ≤ many) (m1 : many ≤ 9223372036854775807) (hpf : planF many rs = (0, -1)) (hsl : S.sl = false) (hpc : S.pc = pc) (hnx : S.nx = lo (pc + 4)) (c0 : 0 ≤ S.ct) (c1 : S.ct ≤ 1152921504606846976) :
    Calls Tryz.prog 32 #[.agg #[.int .u32 pc, .int .i64 many, v], .pointer (some ⟨stb, 0, none⟩), .pointer (some ⟨sb, 0, none⟩)] w fun e w' => HPost w stb sb bp bw bh wt ht S many (runZ wt rs (begX S) m) e w' := by
  have PK := planF_ok hpf
  have HPK : Hid (PlanOk many rs) := PK
  obtain ⟨ra, rc, hv, hcap, hh⟩ := id RI
  subst hv
  have B0 : Below w.heap.size w ((w.alloc (.cells #[.int .u32 pc, .int .i64 many, .slice ra rs.length rc] 79)).alloc (.cells #[.bool false, .int .i64 0] 84)) := ((Below.refl _ _).alloc (Nat.le_refl _) _).alloc (by simp) _
  have k0 : ((w.alloc (.cells #[.int .u32 pc, .int .i64 many, .slice ra rs.length rc] 79)).alloc (.cells #[.bool false, .int .i64 0] 84)).cell? ⟨w.heap.size, 0, none⟩ = some (.int .u32 pc) := by simp
  have k1 : ((w.alloc (.cells #[.int .u32 pc, .int .i64 many, .slice ra rs.length rc] 79)).alloc (.cells #[.bool false, .int .i64 0] 84)).cell? ⟨w.heap.size, 1, none⟩ = some (.int .i64 many) := by simp
  have k2 : ((w.alloc (.cells #[.int .u32 pc, .int .i64 many, .slice ra rs.length rc] 79)).alloc (.cells #[.bool false, .int .i64 0] 84)).cell? ⟨w.heap.size, 2, none⟩ = some (.slice ra rs.length rc) := by simp
  have e0 : ((w.alloc (.cells #[.int .u32 pc, .int .i64 many, .slice ra rs.length rc] 79)).alloc (.cells #[.bool false, .int .i64 0] 84)).cell? ⟨w.heap.size + 1, 0, none⟩ = some (.bool false) := by simp
  have e1 : ((w.alloc (.cells #[.int .u32 pc, .int .i64 many, .slice ra rs.length rc] 79)).alloc (.cells #[.bool false, .int .i64 0] 84)).cell? ⟨w.heap.size + 1, 1, none⟩ = some (.int .i64 0) := by simp
  have ef : ∀ j, ((w.alloc (.cells #[.int .u32 pc, .int .i64 many, .slice ra rs.length rc] 79)).alloc (.cells #[.bool false, .int .i64 0] 84)).frozen? ⟨w.heap.size + 1, j, none⟩ = false := fun j => by
    rw [show w.heap.size + 1 = (w.alloc (.cells #[.int .u32 pc, .int .i64 many, .slice ra rs.length rc] 79)).heap.size by simp]; exact World.frozen?_alloc_at _ _ _ _ rfl
  have hsz0 : ((w.alloc (.cells #[.int .u32 pc, .int .i64 many, .slice ra rs.length rc] 79)).alloc (.cells #[.bool false, .int .i64 0] 84)).heap.size = w.heap.size + 2 := by simp
  have hck := checkP_any pe (E.stays B0) (RI.stays B0) F pc many m0 m1
  rw [hpf] at hck
  have HE : Hid (∀ W, Below w.heap.size w W → Eg pe W) := fun W hW => E.e.stays hW
  have HR : Hid (∀ W, Below w.heap.size w W → RamIs W sb bp bw bh N m wt ht) := fun W hW => R.stays hW (Nat.le_refl _)
  have HS : Hid (∀ W, Below w.heap.size w W → StRow W stb S) := fun W hW => hS.stays hW
  have HRI : Hid (∀ W, Below w.heap.size w W → RowsI W (.slice ra rs.length rc) rs) := fun W hW => RI.stays hW
  have HXB : Hid (∀ j, u32 (begX S j)) := begX_u ok
  have hstl := hS.lt
  have hmbd := R.mb
  have HMB : Hid (∀ i, 0 ≤ m i ∧ m i < 4294967296) := hmbd
  have hlen := PK.len
  have hB00 : Hid (Below w.heap.size w ((w.alloc (.cells #[.int .u32 pc, .int .i64 many, .slice ra rs.length rc] 79)).alloc (.cells #[.bool false, .int .i64 0] 84))) := B0
  have HBG : Hid (S.sl = false ∧ S.pc = pc ∧ S.nx = lo (pc + 4)) := ⟨hsl, hpc, hnx⟩
  have m0' := PK.m0
  have m1' := PK.m1
  obtain ⟨Z, hZ⟩ : ∃ Z, runZ wt rs (begX S) m = Z := ⟨_, rfl⟩
  have HZ : Hid (runZ wt rs (begX S) m = Z) := hZ
  rw [hZ]
  clear hZ hpf PK E R hS RI F hsl hpc hnx hh ok B0 hmbd
  go_enter Tryz.func32, Tryz.ntmps32
  go_upto_region 3 with fail
  generalize ((w.alloc (.cells #[.int .u32 pc, .int .i64 many, .slice ra rs.length rc] 79)).alloc (.cells #[.bool false, .int .i64 0] 84)) = V at *
  go_wp2_with fail
  refine hck.mono ?_
  rintro e w1 ⟨⟨x, rfl, hC⟩, hb1⟩
  obtain rfl : x = .nilIface := by
    rcases hC with ⟨_, h⟩ | ⟨h1, _⟩
    · exact h
    · exact absurd h1 (by decide)
  have hBw1 : Hid (Below w.heap.size w w1) := hB00.out.trans (hb1.mono (by omega))
  have q0 := (hb1.cell (p := ⟨w.heap.size, 0, none⟩) (show w.heap.size < V.heap.size by omega)).trans k0
  have q1 := (hb1.cell (p := ⟨w.heap.size, 1, none⟩) (show w.heap.size < V.heap.size by omega)).trans k1
  have q2 := (hb1.cell (p := ⟨w.heap.size, 2, none⟩) (show w.heap.size < V.heap.size by omega)).trans k2
  have qe0 := (hb1.cell (p := ⟨w.heap.size + 1, 0, none⟩) (show w.heap.size + 1 < V.heap.size by omega)).trans e0
  have qe1 := (hb1.cell (p := ⟨w.heap.size + 1, 1, none⟩) (show w.heap.size + 1 < V.heap.size by omega)).trans e1
  have qef : ∀ j, w1.frozen? ⟨w.heap.size + 1, j, none⟩ = false := fun j => (hb1.frozen (p := ⟨w.heap.size + 1, j, none⟩) (show w.heap.size + 1 < V.heap.size by omega)).trans (ef j)
  have hsz1 : w.heap.size + 2 ≤ w1.heap.size := by have := hb1.size; omega
  clear hck hb1 hC k0 k1 k2 e0 e1 ef hsz0 hB00
  have hbg := begin_ok (sb := sb) (HS.out w1 hBw1.out) pc p0 p1 HBG.out.1 HBG.out.2.1 HBG.out.2.2
  have hw0 : w.heap.size < w1.heap.size := by omega
  go_wp2_with fail
  refine hbg.mono ?_
  rintro e w2 ⟨mb, rfl, hmb, hGR, hb2⟩
  generalize hbase : w1.heap.size = base at *
  have hBB : Hid (Below base w1 w2) := hb2
  have HG2 : Hid (GAt w2 base mb stb sb (begX S) [] (.slice none 0 0)) := hGR.gat hmb HXB.out (by have := hb2.size; omega)
  have HCX : Hid (∀ W, Below base w1 W → Below w.heap.size w W) := fun W hW => hBw1.out.trans (hW.mono (by omega))
  have HC : Hid (∀ W, Below base w1 W → W.cell? ⟨w.heap.size, 1, none⟩ = some (.int .i64 many) ∧ W.cell? ⟨w.heap.size, 2, none⟩ = some (.slice ra rs.length rc) ∧ W.cell? ⟨w.heap.size + 1, 0, none⟩ = some (.bool false) ∧ W.cell? ⟨w.heap.size + 1, 1, none⟩ = some (.int .i64 0) ∧ (∀ j, W.frozen? ⟨w.heap.size + 1, j, none⟩ = false) ∧ base ≤ W.heap.size) := fun W hW => ⟨(hW.cell (p := ⟨w.heap.size, 1, none⟩) hw0).trans q1, (hW.cell (p := ⟨w.heap.size, 2, none⟩) hw0).trans q2, (hW.cell (p := ⟨w.heap.size + 1, 0, none⟩) (show w.heap.size + 1 < base by omega)).trans qe0, (hW.cell (p := ⟨w.heap.size + 1, 1, none⟩) (show w.heap.size + 1 < base by omega)).trans qe1, fun j => (hW.frozen (p := ⟨w.heap.size + 1, j, none⟩) (show w.heap.size + 1 < base by omega)).trans (qef j), by have := hW.size; omega⟩
  clear hbg hGR hb2 q0 q1 q2 qe0 qe1 qef
  obtain ⟨d1, d2, d3, d4, d5, d6⟩ := HC.out w2 hBB.out
  have d7 := World.block_lt_of_cell? _ _ d2
  go_wp2
  clear d1 d2 d3 d4 d5 d6 d7
  go_loopw [46] (fun i wr => ∃ (j : Nat) (x m' : Nat → Int) (pj : List Pq) (vj : Value), j ≤ rs.length ∧ i = .int .i64 j ∧ Hid (vw m (pqs pj) = m' ∧ pj.length ≤ 4 * j ∧ (∀ q ∈ pqs pj, wt (q.a / 256) = false)) ∧ Hid (runZ wt (rs.drop j) x m' = Z) ∧ GAt wr base mb stb sb x pj vj ∧ Below base w1 wr) (fun i _ => rs.length - (intOf i).toNat)
  case atStart => exact ⟨0, begX S, m, [], .slice none 0 0, Nat.zero_le _, rfl, ⟨rfl, by simp, by intro q hq; cases hq⟩, HZ.out, HG2.out, hBB.out⟩
  case round =>
    obtain ⟨j, x, m', pj, vj, hj, rfl, HP, HZJ, hG, hB⟩ := hrel
    have HGJ : Hid (GAt wr base mb stb sb x pj vj) := hG
    have HBJ : Hid (Below base w1 wr) := hB
    obtain ⟨d1, d2, d3, d4, d5, d6⟩ := HC.out wr hB
    have d7 := World.block_lt_of_cell? _ _ d2
    have d8 := World.block_lt_of_cell? _ _ d3
    clear hG hB HG2 hBB
    by_cases hlt : j < rs.length
    · obtain ⟨row, hrow⟩ : ∃ q, rs[j]? = some q := ⟨_, List.getElem?_eq_getElem hlt⟩
      have hrm := List.mem_of_getElem? hrow
      obtain ⟨hr4, hrw⟩ := HPK.out.row row hrm
      obtain ⟨ao, cap, he, _, hcell⟩ := HRI.out wr (HCX.out wr HBJ.out)
      obtain ⟨b, off, rfl, hcc⟩ := hcell (by omega)
      injection he with he1 he2 he3
      subst he1 he3
      obtain ⟨u, hu, hO⟩ := hcc j row hrow
      have zb := World.block_lt_of_cell? _ _ hu
      have hlt' : (j : Int) < rs.length := by omega
      have HDR : Hid (rs.drop j = row :: rs.drop (j + 1)) := by
        show _ = _
        rw [List.drop_eq_getElem_cons hlt]
        have := (List.getElem?_eq_some_iff.1 hrow).2
        rw [this]
      have hpl : pj.length ≤ 1000 := by have := HP.out.2.1; omega
      have hrd := hread_any pe (HE.out wr (HCX.out wr HBJ.out)) (HR.out wr (HCX.out wr HBJ.out)) HGJ.out hpl hO (by omega) many hrw
      have HOK : Hid (∀ o ∈ row, o.ok ∧ opE o many = 0) := fun o ho => ⟨hO.ok o ho, hrw o ho⟩
      rw [HP.out.1] at hrd
      obtain ⟨a1, k1, rfl, _⟩ := hO.sh
      clear hcc hcell hO hrow hrm he2 hrw
      go_wp2_with fail
      refine hrd.mono ?_
      rintro e w3 hpost
      unfold RdPost at hpost
      cases htz : trapZ wt x m' row with
      | some t =>
        rw [htz] at hpost
        obtain ⟨rfl, hb3⟩ := hpost
        have hBB3 : Hid (Below base w1 (w3.alloc (.cells #[.bool true, .int .i64 t] 84))) := (HBJ.out.trans (hb3.mono d6)).alloc (by have := hb3.size; omega) _
        have g0 : (w3.alloc (.cells #[.bool true, .int .i64 t] 84)).cell? ⟨w3.heap.size, 0, none⟩ = some (.bool true) := by simp
        have g1 : (w3.alloc (.cells #[.bool true, .int .i64 t] 84)).cell? ⟨w3.heap.size, 1, none⟩ = some (.int .i64 t) := by simp
        have HZT : Hid (Z = .trap t) := by show _ = _; rw [← HZJ.out, HDR.out, runZ_cons, htz]
        clear hrd d1 d2 d3 d4 d5 d6 d7 d8 hu zb hb3
        go_upto_region 13 with fail
        generalize w3.alloc (.cells #[.bool true, .int .i64 t] 84) = A at *
        obtain ⟨d1, d2, d3, d4, d5, d6⟩ := HC.out A hBB3.out
        have d7 := World.block_lt_of_cell? _ _ d3
        have zg := World.block_lt_of_cell? _ _ g0
        go_wp2
        obtain ⟨j0, j1⟩ := end_putG d3 d4 (.bool true) (.int .i64 t)
        refine bodyPost_ret (results_cell1G (A := ⟨w.heap.size + 1, 0, none⟩) rfl _ _ _ rfl (end_loadG j0 j1)) rfl ?_
        rw [HZT.out]
        exact ⟨rfl, ((HCX.out A hBB3.out).setCell (p := ⟨w.heap.size + 1, 0, none⟩) (by show w.heap.size ≤ w.heap.size + 1; omega) _).setCell (p := ⟨w.heap.size + 1, 1, none⟩) (by show w.heap.size ≤ w.heap.size + 1; omega) _⟩
      | none =>
        rw [htz] at hpost
        obtain ⟨uu, rfl, hown, hb3⟩ := hpost
        obtain ⟨ua, uc, rfl, _⟩ := ef_cells hown
        have hBB3 : Hid (Below base w1 (w3.alloc (.cells #[.bool false, .int .i64 0] 84))) := (HBJ.out.trans (hb3.mono d6)).alloc (by have := hb3.size; omega) _
        have g0 : (w3.alloc (.cells #[.bool false, .int .i64 0] 84)).cell? ⟨w3.heap.size, 0, none⟩ = some (.bool false) := by simp
        have g1 : (w3.alloc (.cells #[.bool false, .int .i64 0] 84)).cell? ⟨w3.heap.size, 1, none⟩ = some (.int .i64 0) := by simp
        have HNT : Hid (∀ o ∈ row, (resZ wt x m' o).trap = false) := trapZ_all htz
        have HG3 : Hid (GAt (w3.alloc (.cells #[.bool false, .int .i64 0] 84)) base mb stb sb x pj vj) := (HGJ.out.stays hb3).opened _
        have hOW3 : (w3.alloc (.cells #[.bool false, .int .i64 0] 84)).ownsRow (wr.heap.size + 1) 160 7 (.slice ua (efs wt x m' row).length uc) (efs wt x m' row).length (efL (efs wt x m' row)) := World.ownsRow.alloc hown _
        have HWR : Hid (runZ wt (row :: rs.drop (j + 1)) x m' = if (rowZ wt x m' row).lv < 0 then runZ wt (rs.drop (j + 1)) (rowZ wt x m' row).x (rowZ wt x m' row).m else .leave (rowZ wt x m' row)) := by show _ = _; rw [runZ_cons, htz]
        have hwr := by
          have hh := hwrite_any (wt := wt) (m := m) (row := row) (b2 := wr.heap.size + 1) (u := .slice ua (efs wt x m' row).length uc) HG3.out HMB.out (by have := HP.out.2.1; omega) many HOK.out (by rw [HP.out.1]; exact HNT.out) (by rw [HP.out.1]; exact hOW3) (fun k hk => by
            have h1 := (own_at hOW3 k hk).2
            have h2 := HGJ.out.lt
            exact ⟨by omega, fun e => by have := (HGJ.out.blk k e).1; omega⟩) HP.out.2.2
          rw [HP.out.1] at hh
          exact hh
        have HLV : Hid ((rowZ wt x m' row).lv = -1 ∨ u32 (rowZ wt x m' row).lv) := by
          have hmb' : ∀ i, 0 ≤ m' i ∧ m' i < 4294967296 := by rw [← HP.out.1]; exact vw_bd HMB.out (pqs pj) (pq_ok pj)
          exact rowZ_lv (fun i _ => HGJ.out.xb i) hmb' row ⟨x, m', -1⟩ HOK.out (.inl rfl)
        clear hrd d1 d2 d3 d4 d5 d6 d7 d8 hu zb hb3 hown hOW3 HNT HOK
        generalize (efs wt x m' row).length = en at *
        generalize rowZ wt x m' row = Zr at *
        go_upto_region 13 with fail
        generalize w3.alloc (.cells #[.bool false, .int .i64 0] 84) = A at *
        obtain ⟨d1, d2, d3, d4, d5, d6⟩ := HC.out A hBB3.out
        have zg := World.block_lt_of_cell? _ _ g0
        go_wp2_with fail
        refine hwr.mono ?_
        rintro e w4 ⟨rfl, p4, v4, hv4, hl4, ht4, hG4, hM4, hK4⟩
        have hBB4 : Hid (Below base w1 w4) := Kx.belowB hBB3.out hK4 HG3.out.lb (fun i hi => (HG3.out.blk i hi).2) (by omega)
        have HG4 : Hid (GAt w4 base mb stb sb Zr.x p4 v4) := hG4
        have HP4 : Hid (vw m (pqs p4) = Zr.m ∧ p4.length ≤ 4 * (j + 1) ∧ (∀ q ∈ pqs p4, wt (q.a / 256) = false)) := ⟨hv4, by have := HP.out.2.1; omega, ht4⟩
        clear hwr hG4 hM4 hK4 hv4 hl4 ht4 d1 d2 d3 d4 d5 d6 zg g0 g1
        obtain ⟨d1, d2, d3, d4, d5, d6⟩ := HC.out w4 hBB4.out
        have d7 := World.block_lt_of_cell? _ _ d2
        have d8 := World.block_lt_of_cell? _ _ d3
        by_cases hlv : Zr.lv < 0
        · have e1 : decide (0 ≤ Zr.lv) = false := decide_eq_false (by omega)
          have HZN : Hid (runZ wt (rs.drop (j + 1)) Zr.x Zr.m = Z) := by show _ = _; rw [← HZJ.out, HDR.out, HWR.out, if_pos hlv]
          rw [e1]
          clear e1 hlv HLV HWR
          generalize toV Zr.lv = tv at *
          go_wp2
          go_roundw
          case rel => exact ⟨j + 1, Zr.x, Zr.m, p4, v4, by omega, by go_num, HP4.out, HZN.out, HG4.out, hBB4.out⟩
          case measure => simp [intOf]; omega
        · have e1 : decide (0 ≤ Zr.lv) = true := decide_eq_true (by omega)
          have e2 : toV Zr.lv = Zr.lv := by unfold toV; rw [if_neg hlv]
          have HZN : Hid (Z = .leave Zr) := by show _ = _; rw [← HZJ.out, HDR.out, HWR.out, if_neg hlv]
          have hlu : u32 Zr.lv := by rcases HLV.out with h | h; omega; exact h
          rw [e1, e2]
          clear e1 e2 HLV HWR
          have hle := leave_any (N := N) (HR.out w4 (HCX.out w4 hBB4.out)) HG4.out (HS.out w4 (HCX.out w4 hBB4.out)) (by have := HP4.out.2.1; omega) (by omega) (by omega) (by omega) (by omega) n1 n2 n3 n4 HP4.out.2.2 Zr.lv many hlu.1 hlu.2 c0 c1 m0' m1'
          rw [HP4.out.1] at hle
          go_wp2_with fail
          refine hle.mono ?_
          rintro e w5 ⟨rfl, hS5, hR5, hs5, hf5, ho5⟩
          have hne : w.heap.size + 1 ≠ stb ∧ w.heap.size + 1 ≠ bp ∧ w.heap.size + 1 ≠ bh := by omega
          have hbk := hf5 (w.heap.size + 1) d8 hne.1 hne.2.1 hne.2.2
          have r0 := (World.cell?_of_block (a := ⟨w.heap.size + 1, 0, none⟩) hbk).trans d3
          have r1 := (World.cell?_of_block (a := ⟨w.heap.size + 1, 1, none⟩) hbk).trans d4
          have rf : ∀ k, w5.frozen? ⟨w.heap.size + 1, k, none⟩ = false := fun k => (World.frozen?_of_block (a := ⟨w.heap.size + 1, k, none⟩) hbk).trans (d5 k)
          have r8 := World.block_lt_of_cell? _ _ r0
          have HS5 : Hid (StRow w5 stb (leftS S Zr.x Zr.lv many)) := hS5
          have HR5 : Hid (RamIs w5 sb bp bw bh (N + 2 * p4.length) Zr.m wt ht) := hR5
          have HF5 : Hid (∀ k, k < w.heap.size → k ≠ stb → k ≠ bp → k ≠ bh → w5.heap[k]? = w.heap[k]?) := fun k hk k1 k2 k3 => (hf5 k (by omega) k1 k2 k3).trans ((HCX.out w4 hBB4.out).block k hk)
          have HO5 : Hid (w5.os = w.os ∧ w5.tape = w.tape ∧ w5.output = w.output) := ⟨ho5.1.trans (HCX.out w4 hBB4.out).os, ho5.2.1.trans (HCX.out w4 hBB4.out).tape, ho5.2.2.trans (HCX.out w4 hBB4.out).output⟩
          clear hle hS5 hR5 hf5 ho5 hbk d1 d2 d3 d4 d5 d7 d8
          go_wp2
          obtain ⟨j0, j1⟩ := end_putG r0 r1 (.bool false) (.int .i64 0)
          have hoth : ∀ k, k ≠ w.heap.size + 1 → ((w5.setCell ⟨w.heap.size + 1, 0, none⟩ (.bool false)).setCell ⟨w.heap.size + 1, 1, none⟩ (.int .i64 0)).heap[k]? = w5.heap[k]? := fun k hk => (Below.heap_setCell _ ⟨w.heap.size + 1, 1, none⟩ _ k hk).trans (Below.heap_setCell _ ⟨w.heap.size + 1, 0, none⟩ _ k hk)
          refine bodyPost_ret (results_cell1G (A := ⟨w.heap.size + 1, 0, none⟩) rfl _ _ _ rfl (end_loadG j0 j1)) rfl ?_
          rw [HZN.out]
          exact ⟨rfl, HS5.out.block (hoth stb (by omega)), ⟨_, by have := HP4.out.2.1; omega, HR5.out.turn1 (w.heap.size + 1) (by omega) (by omega) (by omega) (by omega) hoth⟩, by simp; omega, fun k hk k1 k2 k3 => (hoth k (by omega)).trans (HF5.out k hk k1 k2 k3), HO5.out⟩
    · obtain rfl : j = rs.length := by omega
      have HZN : Hid (Z = .fell) := by show _ = _; rw [← HZJ.out, List.drop_length]; rfl
      go_wp2
      obtain ⟨j0, j1⟩ := end_putG d3 d4 (.bool true) (.int .i64 0)
      refine bodyPost_ret (results_cell1G (A := ⟨w.heap.size + 1, 0, none⟩) rfl _ _ _ rfl (end_loadG j0 j1)) rfl ?_
      rw [HZN.out]
      exact ⟨rfl, ((HCX.out wr HBJ.out).setCell (p := ⟨w.heap.size + 1, 0, none⟩) (by show w.heap.size ≤ w.heap.size + 1; omega) _).setCell (p := ⟨w.heap.size + 1, 1, none⟩) (by show w.heap.size ≤ w.heap.size + 1; omega) _⟩
end
end Go.Proofs.YtflagpkmebdckaaGreatDoor
/-
  The closed fact of hosts; nil arguments, errors of Run; coded.
-/
namespace Go.Proofs.YtflagpkmebdckaaGreatDoor
open Go.RowKit Go.Maps
open Num
set_option linter.unusedVariables false
theorem set_self {w : World} {g i : Nat} {cs : Array Value} {t : TypeId} {v : Value} (h : w.heap[g]? = some (.cells cs t (0, 0))) (hv : cs[i]? = some v) : w.setCell ⟨g, i, none⟩ v = w := by
  have hc : cs.setIfInBounds i v = cs := by
    apply Array.ext_getElem?
    intro j
    rw [Array.getElem?_setIfInBounds]
    by_cases e : i = j
    · subst e
      have hi : i < cs.size := (Array.getElem?_eq_some_iff.1 hv).1
      simp [hi] at hv ⊢
      exact hv.symm
    · simp [e]
  have hh : (w.setCell ⟨g, i, none⟩ v).heap = w.heap := by
    apply Array.ext_getElem?
    intro k
    by_cases hk : k = g
    · subst hk
      rw [heap_setCell_same w k i cs t v h, h, hc]
    · exact heap_setCell_other _ _ _ _ hk
  show ({ w with heap := (w.setCell ⟨g, i, none⟩ v).heap } : World) = w
  rw [hh]
theorem ram_ltG {w : World} {sb bp bw bh N : Nat} {m : Nat → Int} {wt ht : Int → Bool} (R : RamIs w sb bp bw bh N m wt ht) : sb < w.heap.size ∧ bp < w.heap.size ∧ bw < w.heap.size ∧ bh < w.heap.size :=
  ⟨World.block_lt_of_cell? _ _ R.c0, R.ps.lt, R.ws.lt, R.hs.lt⟩
theorem st_rowG (w : World) (S : St) : StRow (w.alloc (.cells (stA S) 25)) w.heap.size S :=
  ⟨stA S, heap_alloc_new w _, stA_size S, fun j hj => stA_get S hj⟩
/-- the state of the closed fact -/
def hS1 : St := { zS with nx := 4 }
def hS0 : St := { hS1 with r := fun j => if j = 1 then 5 else if j = 2 then 6 else 0 }
def hL : List Opx := [⟨kindS 2, 1, 2, 0, 0, 0⟩, ⟨kindS 2, 2, 1, 0, 0, 0⟩, ⟨kindS 26, 0, 0, 0, 8, 0⟩]
theorem hL_ok : ∀ o ∈ hL, o.ok := by
  intro o ho
  simp [hL] at ho
  rcases ho with rfl | rfl | rfl <;> exact ⟨by decide, by decide, by decide, by decide, by decide, by decide, by decide, by decide, by decide, by decide⟩
theorem hL_plan : planF 1 [hL] = (0, -1) := by decide
theorem hL_few : Few [hL] := ⟨by decide, by intro r hr; simp at hr; subst hr; decide⟩
theorem hS0_ok : hS0.ok := by
  refine ⟨fun j => ?_, ?_, ?_, ?_, ?_, ?_, ?_, ?_, ?_, ?_, by decide, by decide⟩
  · show u32 (if j = 1 then 5 else if j = 2 then 6 else 0)
    split
    · exact ⟨by decide, by decide⟩
    · split <;> exact ⟨by decide, by decide⟩
  all_goals exact ⟨by decide, by decide⟩
def hX : Nat → Int := setX (setX (begX hS0) 1 6) 2 5
theorem hL_run (m : Nat → Int) (wt : Int → Bool) : runZ wt [hL] (begX hS0) m = .leave ⟨hX, m, 8⟩ := by
  have k2 : ∀ d a b i t, (Opx.k ⟨kindS 2, d, a, b, i, t⟩) = 2 := fun _ _ _ _ _ => kn_kind 2 (by omega) (by omega)
  have k26 : ∀ d a b i t, (Opx.k ⟨kindS 26, d, a, b, i, t⟩) = 26 := fun _ _ _ _ _ => kn_kind 26 (by omega) (by omega)
  have r1 : resZ wt (begX hS0) m ⟨kindS 2, 1, 2, 0, 0, 0⟩ = ⟨6, 0, false, false⟩ := by rw [resZ_val (by rw [k2]; omega), k2]; rfl
  have r2 : resZ wt (begX hS0) m ⟨kindS 2, 2, 1, 0, 0, 0⟩ = ⟨5, 0, false, false⟩ := by rw [resZ_val (by rw [k2]; omega), k2]; rfl
  have r3 : resZ wt (begX hS0) m ⟨kindS 26, 0, 0, 0, 8, 0⟩ = ⟨0, 8, false, true⟩ := by unfold resZ; rw [k26]; rfl
  have ht : trapZ wt (begX hS0) m hL = none := trapZ_none (fun o ho => by
    simp [hL] at ho
    rcases ho with rfl | rfl | rfl
    · rw [r1]
    · rw [r2]
    · rw [r3])
  have hz : rowZ wt (begX hS0) m hL = ⟨hX, m, 8⟩ := by
    unfold rowZ hL
    simp only [List.foldl_cons, List.foldl_nil, r1, r2, r3]
    rw [appZ_val (by rw [k2]; omega) (by rw [k2]; omega) (by decide), appZ_val (by rw [k2]; omega) (by rw [k2]; omega) (by decide)]
    unfold appZ
    rw [wr_none (by rw [k26]; omega), k26]
    rfl
  rw [runZ_cons, ht]
  simp only
  rw [hz, if_neg (by show ¬ (8 : Int) < 0; decide)]
set_option maxRecDepth 100000 in
set_option maxHeartbeats 4000000 in
theorem hosted_any (pe : Nat → Addr) {w : World} (E : Ep pe w) :
    Calls Tryz.prog 27 #[] w fun e w' => e = .returned (.bool true) ∧ Below w.heap.size w w' := by
  go_enter Tryz.func27, Tryz.ntmps27
  go_upto_region 2 with (first | (refine wpList_allocSt rfl rfl ?_) | (refine wpList_storeSt rfl _ _ rfl (stA zS) (stA hS1) rfl rfl (stA_size _) (stA_size _) (stA_one _) ?_))
  have hS1' := st_rowG w hS1
  have c1 := hS1'.cell (j := 1) (by omega)
  have c2 := hS1'.cell (j := 2) (by omega)
  have fz := fun j => hS1'.fz j
  have hB1 : Below w.heap.size w (w.alloc (.cells (stA hS1) 25)) := (Below.refl _ _).alloc (Nat.le_refl _) _
  have hz1 : (w.alloc (.cells (stA hS1) 25)).heap.size = w.heap.size + 1 := by simp
  generalize w.alloc (.cells (stA hS1) 25) = V0 at *
  have zz : w.heap.size < V0.heap.size := by omega
  go_upto_region 4 with fail
  have hSV : StRow ((V0.setCell ⟨w.heap.size, 1, none⟩ (.int .u32 5)).setCell ⟨w.heap.size, 2, none⟩ (.int .u32 6)) w.heap.size hS0 := by
    have r1 := hS1'.put 1 (.int .u32 5) (stV { hS1 with r := fun j => if j = 1 then 5 else 0 }) rfl (fun j hj hn => by unfold stV; simp [hn, hS1, zS])
    exact r1.put 2 (.int .u32 6) (stV hS0) rfl (fun j hj hn => by unfold stV hS0; simp [hn])
  have hB0 : Below w.heap.size w ((V0.setCell ⟨w.heap.size, 1, none⟩ (.int .u32 5)).setCell ⟨w.heap.size, 2, none⟩ (.int .u32 6)) := (hB1.setCell (p := ⟨w.heap.size, 1, none⟩) (Nat.le_refl _) _).setCell (p := ⟨w.heap.size, 2, none⟩) (Nat.le_refl _) _
  have hz0 : ((V0.setCell ⟨w.heap.size, 1, none⟩ (.int .u32 5)).setCell ⟨w.heap.size, 2, none⟩ (.int .u32 6)).heap.size = w.heap.size + 1 := by simp [hz1]
  clear c1 c2 fz hS1' hB1 hz1 zz
  generalize (V0.setCell ⟨w.heap.size, 1, none⟩ (.int .u32 5)).setCell ⟨w.heap.size, 2, none⟩ (.int .u32 6) = V at *
  go_upto_region 5 with fail
  have hOps : OpsIn (V.alloc (.cells #[.string ⟨#[99, 111, 112, 121]⟩, .int .i64 1, .int .i64 2, .int .i64 0, .int .u32 0, .int .i64 0, .string ⟨#[99, 111, 112, 121]⟩, .int .i64 2, .int .i64 1, .int .i64 0, .int .u32 0, .int .i64 0, .string ⟨#[111, 117, 116]⟩, .int .i64 0, .int .i64 0, .int .i64 0, .int .u32 8, .int .i64 0] 139)) (.slice (some ⟨w.heap.size + 1, 0, none⟩) 3 3) hL := by
    refine ⟨⟨_, 3, rfl, by decide, fun _ => ⟨w.heap.size + 1, 0, rfl, fun i o hi j u hu => ?_⟩⟩, hL_ok⟩
    rw [← hz0, cell_of_row _ _ _ _ _ _ (heap_alloc_new V _)]
    have h3 : i = 0 ∨ i = 1 ∨ i = 2 := by have := (List.getElem?_eq_some_iff.1 hi).1; simp [hL] at this; omega
    have h6 : j < 6 := by have := (List.getElem?_eq_some_iff.1 hu).1; simpa [opC] using this
    have h6' : j = 0 ∨ j = 1 ∨ j = 2 ∨ j = 3 ∨ j = 4 ∨ j = 5 := by omega
    rcases h3 with rfl | rfl | rfl <;> (simp [hL] at hi; subst hi; rcases h6' with rfl | rfl | rfl | rfl | rfl | rfl <;> (simp [opC] at hu; subst hu; rfl))
  have hzA : (V.alloc (.cells #[.string ⟨#[99, 111, 112, 121]⟩, .int .i64 1, .int .i64 2, .int .i64 0, .int .u32 0, .int .i64 0, .string ⟨#[99, 111, 112, 121]⟩, .int .i64 2, .int .i64 1, .int .i64 0, .int .u32 0, .int .i64 0, .string ⟨#[111, 117, 116]⟩, .int .i64 0, .int .i64 0, .int .i64 0, .int .u32 8, .int .i64 0] 139)).heap.size = w.heap.size + 1 + 1 := by simp [hz0]
  have hRows0 : RowsI ((V.alloc (.cells #[.string ⟨#[99, 111, 112, 121]⟩, .int .i64 1, .int .i64 2, .int .i64 0, .int .u32 0, .int .i64 0, .string ⟨#[99, 111, 112, 121]⟩, .int .i64 2, .int .i64 1, .int .i64 0, .int .u32 0, .int .i64 0, .string ⟨#[111, 117, 116]⟩, .int .i64 0, .int .i64 0, .int .i64 0, .int .u32 8, .int .i64 0] 139)).alloc (.cells #[.slice (some ⟨w.heap.size + 1, 0, none⟩) 3 3] 52)) (.slice (some ⟨w.heap.size + 1 + 1, 0, none⟩) 1 1) [hL] := by
    refine ⟨_, 1, rfl, by decide, fun _ => ⟨w.heap.size + 1 + 1, 0, rfl, fun i row hi => ?_⟩⟩
    have h0 : i = 0 := by have := (List.getElem?_eq_some_iff.1 hi).1; simp at this; omega
    subst h0
    obtain rfl : hL = row := by simpa using hi
    refine ⟨.slice (some ⟨w.heap.size + 1, 0, none⟩) 3 3, ?_, hOps.stays ((Below.refl _ _).alloc (Nat.le_refl _) _)⟩
    rw [← hzA, cell_of_row _ _ _ _ _ _ (heap_alloc_new _ _)]; rfl
  have hRows := hRows0.stays ((Below.refl _ _).alloc (Nat.le_refl _) (.cells #[.int .u32 0, .int .i64 1, .slice (some ⟨w.heap.size + 1 + 1, 0, none⟩) 1 1] 79))
  clear hOps hRows0 hzA
  have B1 : Hid (Below V.heap.size V (((V.alloc (.cells #[.string ⟨#[99, 111, 112, 121]⟩, .int .i64 1, .int .i64 2, .int .i64 0, .int .u32 0, .int .i64 0, .string ⟨#[99, 111, 112, 121]⟩, .int .i64 2, .int .i64 1, .int .i64 0, .int .u32 0, .int .i64 0, .string ⟨#[111, 117, 116]⟩, .int .i64 0, .int .i64 0, .int .i64 0, .int .u32 8, .int .i64 0] 139)).alloc (.cells #[.slice (some ⟨w.heap.size + 1, 0, none⟩) 3 3] 52)).alloc (.cells #[.int .u32 0, .int .i64 1, .slice (some ⟨w.heap.size + 1 + 1, 0, none⟩) 1 1] 79))) := (((Below.refl _ _).alloc (Nat.le_refl _) _).alloc (by simp) _).alloc (by simp; omega) _
  have hzU : (((V.alloc (.cells #[.string ⟨#[99, 111, 112, 121]⟩, .int .i64 1, .int .i64 2, .int .i64 0, .int .u32 0, .int .i64 0, .string ⟨#[99, 111, 112, 121]⟩, .int .i64 2, .int .i64 1, .int .i64 0, .int .u32 0, .int .i64 0, .string ⟨#[111, 117, 116]⟩, .int .i64 0, .int .i64 0, .int .i64 0, .int .u32 8, .int .i64 0] 139)).alloc (.cells #[.slice (some ⟨w.heap.size + 1, 0, none⟩) 3 3] 52)).alloc (.cells #[.int .u32 0, .int .i64 1, .slice (some ⟨w.heap.size + 1 + 1, 0, none⟩) 1 1] 79)).heap.size = w.heap.size + 4 := by simp [hz0]
  have hzO : ((V.alloc (.cells #[.string ⟨#[99, 111, 112, 121]⟩, .int .i64 1, .int .i64 2, .int .i64 0, .int .u32 0, .int .i64 0, .string ⟨#[99, 111, 112, 121]⟩, .int .i64 2, .int .i64 1, .int .i64 0, .int .u32 0, .int .i64 0, .string ⟨#[111, 117, 116]⟩, .int .i64 0, .int .i64 0, .int .i64 0, .int .u32 8, .int .i64 0] 139)).alloc (.cells #[.slice (some ⟨w.heap.size + 1, 0, none⟩) 3 3] 52)).heap.size = w.heap.size + 1 + 1 + 1 := by simp [hz0]
  have k0 : (((V.alloc (.cells #[.string ⟨#[99, 111, 112, 121]⟩, .int .i64 1, .int .i64 2, .int .i64 0, .int .u32 0, .int .i64 0, .string ⟨#[99, 111, 112, 121]⟩, .int .i64 2, .int .i64 1, .int .i64 0, .int .u32 0, .int .i64 0, .string ⟨#[111, 117, 116]⟩, .int .i64 0, .int .i64 0, .int .i64 0, .int .u32 8, .int .i64 0] 139)).alloc (.cells #[.slice (some ⟨w.heap.size + 1, 0, none⟩) 3 3] 52)).alloc (.cells #[.int .u32 0, .int .i64 1, .slice (some ⟨w.heap.size + 1 + 1, 0, none⟩) 1 1] 79)).cell? ⟨w.heap.size + 1 + 1 + 1, 0, none⟩ = some (.int .u32 0) := by rw [← hzO, cell_of_row _ _ _ _ _ _ (heap_alloc_new _ _)]; rfl
  have k1 : (((V.alloc (.cells #[.string ⟨#[99, 111, 112, 121]⟩, .int .i64 1, .int .i64 2, .int .i64 0, .int .u32 0, .int .i64 0, .string ⟨#[99, 111, 112, 121]⟩, .int .i64 2, .int .i64 1, .int .i64 0, .int .u32 0, .int .i64 0, .string ⟨#[111, 117, 116]⟩, .int .i64 0, .int .i64 0, .int .i64 0, .int .u32 8, .int .i64 0] 139)).alloc (.cells #[.slice (some ⟨w.heap.size + 1, 0, none⟩) 3 3] 52)).alloc (.cells #[.int .u32 0, .int .i64 1, .slice (some ⟨w.heap.size + 1 + 1, 0, none⟩) 1 1] 79)).cell? ⟨w.heap.size + 1 + 1 + 1, 1, none⟩ = some (.int .i64 1) := by rw [← hzO, cell_of_row _ _ _ _ _ _ (heap_alloc_new _ _)]; rfl
  have k2 : (((V.alloc (.cells #[.string ⟨#[99, 111, 112, 121]⟩, .int .i64 1, .int .i64 2, .int .i64 0, .int .u32 0, .int .i64 0, .string ⟨#[99, 111, 112, 121]⟩, .int .i64 2, .int .i64 1, .int .i64 0, .int .u32 0, .int .i64 0, .string ⟨#[111, 117, 116]⟩, .int .i64 0, .int .i64 0, .int .i64 0, .int .u32 8, .int .i64 0] 139)).alloc (.cells #[.slice (some ⟨w.heap.size + 1, 0, none⟩) 3 3] 52)).alloc (.cells #[.int .u32 0, .int .i64 1, .slice (some ⟨w.heap.size + 1 + 1, 0, none⟩) 1 1] 79)).cell? ⟨w.heap.size + 1 + 1 + 1, 2, none⟩ = some (.slice (some ⟨w.heap.size + 1 + 1, 0, none⟩) 1 1) := by rw [← hzO, cell_of_row _ _ _ _ _ _ (heap_alloc_new _ _)]; rfl
  clear hzO
  have hR2 := hRows
  generalize ((V.alloc (.cells #[.string ⟨#[99, 111, 112, 121]⟩, .int .i64 1, .int .i64 2, .int .i64 0, .int .u32 0, .int .i64 0, .string ⟨#[99, 111, 112, 121]⟩, .int .i64 2, .int .i64 1, .int .i64 0, .int .u32 0, .int .i64 0, .string ⟨#[111, 117, 116]⟩, .int .i64 0, .int .i64 0, .int .i64 0, .int .u32 8, .int .i64 0] 139)).alloc (.cells #[.slice (some ⟨w.heap.size + 1, 0, none⟩) 3 3] 52)).alloc (.cells #[.int .u32 0, .int .i64 1, .slice (some ⟨w.heap.size + 1 + 1, 0, none⟩) 1 1] 79) = U at *
  have BU : Hid (Below w.heap.size w U) := hB0.trans (B1.out.mono (by omega))
  have EU : Hid (Ep pe U) := E.stays BU.out
  have SU : Hid (StRow U w.heap.size hS0) := hSV.stays B1.out
  have RU : Hid (RowsI U (.slice (some ⟨w.heap.size + 1 + 1, 0, none⟩) 1 1) [hL]) := hR2
  have hev : ∀ (W : World) (n : Nat), Below U.heap.size U W → RamIs W n (n + 1) (n + 2) (n + 3) 64 (mw []) (fun _ => false) (fun _ => false) → U.heap.size ≤ n → Calls Tryz.prog 32 #[.agg #[.int .u32 0, .int .i64 1, .slice (some ⟨w.heap.size + 1 + 1, 0, none⟩) 1 1], .pointer (some ⟨w.heap.size, 0, none⟩), .pointer (some ⟨n, 0, none⟩)] W fun e w' => e = .returned (.tuple #[.agg #[.bool false, .int .i64 0], .nilIface]) ∧ StRow w' w.heap.size (leftS hS0 hX 8 1) ∧ Below w.heap.size w w' ∧ (∀ (j : Nat) (u : Value), U.cell? ⟨w.heap.size + 1 + 1 + 1, j, none⟩ = some u → w'.cell? ⟨w.heap.size + 1 + 1 + 1, j, none⟩ = some u) ∧ W.heap.size ≤ w'.heap.size ∧ (∀ k, w.heap.size < k → k < W.heap.size → k ≠ n + 1 → k ≠ n + 3 → w'.heap[k]? = W.heap[k]?) := by
    intro W n hb R h1
    have hlt := ram_ltG R
    refine (hrun_ok pe (EU.out.stays hb) R (by decide) hS0_ok (SU.out.stays hb) (by omega) (by omega) (by omega) (by omega) hlt.1 hlt.2.1 hlt.2.2.1 hlt.2.2.2 (RU.out.stays hb) hL_few 0 1 (by decide) (by decide) (by decide) (by decide) hL_plan rfl rfl rfl (by decide) (by decide)).mono ?_
    rintro e w' hpost
    rw [hL_run] at hpost
    obtain ⟨rfl, S4, _, hz, hk, ho⟩ := hpost
    · skip
      have hzW := hb.size
      have bk : ∀ k, k < U.heap.size → k ≠ w.heap.size → w'.heap[k]? = U.heap[k]? := fun k hk' hn => (hk k (by omega) hn (by omega) (by omega)).trans (hb.block k hk')
      exact ⟨rfl, S4, ⟨ho.1.trans (hb.os.trans BU.out.os), ho.2.1.trans (hb.tape.trans BU.out.tape), ho.2.2.trans (hb.output.trans BU.out.output), by have := BU.out.size; omega, fun k hk' => (bk k (by omega) (by omega)).trans (BU.out.block k hk')⟩, fun j u h => (World.cell?_of_block (a := ⟨w.heap.size + 1 + 1 + 1, j, none⟩) (bk (w.heap.size + 1 + 1 + 1) (by omega) (by omega))).trans h, hz, fun k h2 h3 h4 h5 => hk k h3 (by omega) h4 h5⟩
  have hnew : ∀ (W : World) (n : Nat), W.heap.size = n → Below U.heap.size U W → Calls Tryz.prog 35 #[.slice none 0 0] W fun e w' => e = .returned (.pointer (some ⟨n, 0, none⟩)) ∧ RamIs w' n (n + 1) (n + 2) (n + 3) 64 (mw []) (fun _ => false) (fun _ => false) ∧ Below U.heap.size U w' ∧ Below W.heap.size W w' ∧ (∀ (j : Nat) (u : Value), U.cell? ⟨w.heap.size + 1 + 1 + 1, j, none⟩ = some u → w'.cell? ⟨w.heap.size + 1 + 1 + 1, j, none⟩ = some u) := by
    rintro W n rfl hb
    refine (new_any (w := W) (v := .slice none 0 0) (xs := []) ⟨⟨none, 0, rfl, Nat.le_refl _, fun h => by cases h⟩, fun i => ⟨by show (0 : Int) ≤ 0; decide, by show (0 : Int) < _; decide⟩⟩ (by decide)).mono ?_
    rintro e w' ⟨rfl, R, b⟩
    have hb' : Below U.heap.size U w' := hb.trans (b.mono hb.size)
    exact ⟨rfl, R, hb', b, fun j u h => (hb'.cell (p := ⟨w.heap.size + 1 + 1 + 1, j, none⟩) (show w.heap.size + 1 + 1 + 1 < U.heap.size by omega)).trans h⟩
  clear hSV hB0 hRows hR2 E
  refine wp_region_tree 7 (.step 0 1 (.fork 1 6 (.fork 2 6 (.step 3 0 (.step 4 0 (.step 5 0 (.step 6 2 (.step 7 2 (.step 8 0 .nil)))))) (.step 2 2 (.step 3 0 (.step 4 0 (.step 5 0 (.step 7 2 (.step 8 0 .nil))))))) (.step 1 2 (.step 2 2 (.step 3 0 (.step 4 0 (.step 5 0 (.step 7 2 (.step 8 0 .nil))))))))) (fun W => W.cell? ⟨w.heap.size + 1 + 1 + 1, 0, none⟩ = some (.int .u32 0) ∧ W.cell? ⟨w.heap.size + 1 + 1 + 1, 1, none⟩ = some (.int .i64 1) ∧ W.cell? ⟨w.heap.size + 1 + 1 + 1, 2, none⟩ = some (.slice (some ⟨w.heap.size + 1 + 1, 0, none⟩) 1 1)) (by kernel_rfl) (by kernel_rfl) (fun _ _ _ d _ h => by cases d <;> exact h) ⟨by simpa using k0, by simpa using k1, by simpa using k2⟩ ?_
  refine wpT_quiet (by rfl) (by rfl) (fun W hW => by (obtain ⟨z0, z1, z2⟩ := hW; go_simp; try with_reducible rfl)) (fun K hK => ?_)
  go_simp
  refine hK _ ?_
  clear hK K
  refine wpT_fork (by rfl) (by rfl) (by rfl) (by rfl) (fun K hK => ?_) (fun K hK => ?_)
  · go_simp
    refine (hnew (U.drew) (w.heap.size + 4) (by simp; omega) (below_drew (Below.refl _ _))).mono ?_
    rintro e w1 ⟨rfl, R1, b1, hb1, c1⟩
    have hz1 := b1.size
    refine hK _ _ (fun _ => ⟨c1 0 _ k0, c1 1 _ k1, c1 2 _ k2⟩) ?_
    clear hK K
    refine wpT_fork (by rfl) (by rfl) (by rfl) (by rfl) (fun K hK => ?_) (fun K hK => ?_)
    · go_simp
      refine (hev (w1) (w.heap.size + 4) b1 R1 (by omega)).mono ?_
      rintro e w2 ⟨rfl, S2, B2, c2, hz2, hk2⟩
      refine hK _ _ (fun _ => ⟨c2 0 _ k0, c2 1 _ k1, c2 2 _ k2⟩) ?_
      clear hK K
      repeat (refine wpT_free (by rfl) (by rfl) (fun W => by (go_simp; try with_reducible rfl)) (fun K hK => ?_); go_simp; refine hK _ ?_; clear hK K)
      refine wpT_serial (by rfl) (by rfl) (fun K hK => ?_)
      go_simp
      have b3 : Below w2.heap.size w2 (w2.alloc (.cells #[.bool false, .int .i64 0] 84)) := (Below.refl _ _).alloc (Nat.le_refl _) _
      have c3 : ∀ (j : Nat) (u : Value), U.cell? ⟨w.heap.size + 1 + 1 + 1, j, none⟩ = some u → (w2.alloc (.cells #[.bool false, .int .i64 0] 84)).cell? ⟨w.heap.size + 1 + 1 + 1, j, none⟩ = some u := fun j u h => (b3.cell (p := ⟨w.heap.size + 1 + 1 + 1, j, none⟩) (show w.heap.size + 1 + 1 + 1 < _ by omega)).trans (c2 j u h)
      refine hK _ _ (fun _ => ⟨c3 0 _ k0, c3 1 _ k1, c3 2 _ k2⟩) ?_
      clear hK K
      refine wpT_serial (by rfl) (by rfl) (fun K hK => ?_)
      go_simp
      refine hK _ _ (fun h => absurd h (by decide)) ?_
      clear hK K
      have hE : (w2.alloc (.cells #[.bool false, .int .i64 0] 84)).heap[w2.heap.size]? = some (.cells #[.bool false, .int .i64 0] 84) := heap_alloc_new _ _
      have S3 : StRow (w2.alloc (.cells #[.bool false, .int .i64 0] 84)) w.heap.size (leftS hS0 hX 8 1) := S2.stays b3
      have B3 : Below w.heap.size w (w2.alloc (.cells #[.bool false, .int .i64 0] 84)) := B2.trans (b3.mono B2.size)
      have hz3 := B3.size
      have d0 : (w2.alloc (.cells #[.bool false, .int .i64 0] 84)).cell? ⟨w2.heap.size, 0, none⟩ = some (.bool false) := by rw [cell_of_row _ _ _ _ _ _ hE]; rfl
      have d1 : (w2.alloc (.cells #[.bool false, .int .i64 0] 84)).cell? ⟨w2.heap.size, 1, none⟩ = some (.int .i64 0) := by rw [cell_of_row _ _ _ _ _ _ hE]; rfl
      have q1 : (w2.alloc (.cells #[.bool false, .int .i64 0] 84)).cell? ⟨w.heap.size, 1, none⟩ = some (.int .u32 6) := S3.cell (j := 1) (by decide)
      have q2 : (w2.alloc (.cells #[.bool false, .int .i64 0] 84)).cell? ⟨w.heap.size, 2, none⟩ = some (.int .u32 5) := S3.cell (j := 2) (by decide)
      generalize w2.alloc (.cells #[.bool false, .int .i64 0] 84) = W3 at *
      repeat (refine wpT_free (by rfl) (by rfl) (fun W => by (go_simp; try with_reducible rfl)) (fun K hK => ?_); go_simp; refine hK _ ?_; clear hK K)
      refine wpT_nil ?_
      go_wp2
      go_ret
      exact ⟨rfl, B3⟩
    · go_simp
      have b3 : Below w1.heap.size w1 (w1.alloc (.cells #[.bool false, .int .i64 0] 84)) := (Below.refl _ _).alloc (Nat.le_refl _) _
      have c3 : ∀ (j : Nat) (u : Value), U.cell? ⟨w.heap.size + 1 + 1 + 1, j, none⟩ = some u → (w1.alloc (.cells #[.bool false, .int .i64 0] 84)).cell? ⟨w.heap.size + 1 + 1 + 1, j, none⟩ = some u := fun j u h => (b3.cell (p := ⟨w.heap.size + 1 + 1 + 1, j, none⟩) (show w.heap.size + 1 + 1 + 1 < _ by omega)).trans (c1 j u h)
      refine hK _ _ (fun _ => ⟨c3 0 _ k0, c3 1 _ k1, c3 2 _ k2⟩) ?_
      clear hK K
      refine wpT_serial (by rfl) (by rfl) (fun K hK => ?_)
      go_simp
      refine (hev (w1.alloc (.cells #[.bool false, .int .i64 0] 84)) (w.heap.size + 4) (b1.trans (b3.mono b1.size)) (R1.stays b3 (Nat.le_refl _)) (by omega)).mono ?_
      rintro e w2 ⟨rfl, S2, B2, c2, hz2, hk2⟩
      refine hK _ _ (fun _ => ⟨c2 0 _ k0, c2 1 _ k1, c2 2 _ k2⟩) ?_
      clear hK K
      have hE : w2.heap[w1.heap.size]? = some (.cells #[.bool false, .int .i64 0] 84) := (hk2 w1.heap.size (by omega) (by simp) (by have := (ram_ltG R1).2.2.2; omega) (by have := (ram_ltG R1).2.2.2; omega)).trans (heap_alloc_new _ _)
      have S3 := S2
      have p0 : w2.cell? ⟨w1.heap.size, 0, none⟩ = some (.bool false) := by rw [cell_of_row _ _ _ _ _ _ hE]; rfl
      have p1 : w2.cell? ⟨w1.heap.size, 1, none⟩ = some (.int .i64 0) := by rw [cell_of_row _ _ _ _ _ _ hE]; rfl
      have f0 : w2.frozen? ⟨w1.heap.size, 0, none⟩ = false := frozen_of_row _ _ _ _ _ hE
      have f1 : w2.frozen? ⟨w1.heap.size, 1, none⟩ = false := frozen_of_row _ _ _ _ _ hE
      have s0 : w2.setCell ⟨w1.heap.size, 0, none⟩ (.bool false) = w2 := set_self hE rfl
      have s1 : w2.setCell ⟨w1.heap.size, 1, none⟩ (.int .i64 0) = w2 := set_self hE rfl
      repeat (refine wpT_free (by rfl) (by rfl) (fun W => by (go_simp; try with_reducible rfl)) (fun K hK => ?_); go_simp; refine hK _ ?_; clear hK K)
      refine wpT_serial (by rfl) (by rfl) (fun K hK => ?_)
      go_simp
      refine hK _ _ (fun h => absurd h (by decide)) ?_
      clear hK K
      have B3 : Below w.heap.size w (w2) := B2
      have hz3 := B3.size
      have d0 : (w2).cell? ⟨w1.heap.size, 0, none⟩ = some (.bool false) := by rw [cell_of_row _ _ _ _ _ _ hE]; rfl
      have d1 : (w2).cell? ⟨w1.heap.size, 1, none⟩ = some (.int .i64 0) := by rw [cell_of_row _ _ _ _ _ _ hE]; rfl
      have q1 : (w2).cell? ⟨w.heap.size, 1, none⟩ = some (.int .u32 6) := S3.cell (j := 1) (by decide)
      have q2 : (w2).cell? ⟨w.heap.size, 2, none⟩ = some (.int .u32 5) := S3.cell (j := 2) (by decide)
      generalize w2 = W3 at *
      repeat (refine wpT_free (by rfl) (by rfl) (fun W => by (go_simp; try with_reducible rfl)) (fun K hK => ?_); go_simp; refine hK _ ?_; clear hK K)
      refine wpT_nil ?_
      go_wp2
      go_ret
      exact ⟨rfl, B3⟩
  · go_simp
    have b4 : Below U.heap.size U (U.drew.alloc (.cells #[.bool false, .int .i64 0] 84)) := (below_drew (Below.refl _ _)).alloc (by simp) _
    have c4 : ∀ (j : Nat) (u : Value), U.cell? ⟨w.heap.size + 1 + 1 + 1, j, none⟩ = some u → (U.drew.alloc (.cells #[.bool false, .int .i64 0] 84)).cell? ⟨w.heap.size + 1 + 1 + 1, j, none⟩ = some u := fun j u h => (b4.cell (p := ⟨w.heap.size + 1 + 1 + 1, j, none⟩) (show w.heap.size + 1 + 1 + 1 < _ by omega)).trans h
    refine hK _ _ (fun _ => ⟨c4 0 _ k0, c4 1 _ k1, c4 2 _ k2⟩) ?_
    clear hK K
    refine wpT_serial (by rfl) (by rfl) (fun K hK => ?_)
    go_simp
    refine (hnew (U.drew.alloc (.cells #[.bool false, .int .i64 0] 84)) (w.heap.size + 4 + 1) (by simp; omega) b4).mono ?_
    rintro e w1 ⟨rfl, R1, b1, hb1, c1⟩
    have hz1 := b1.size
    refine hK _ _ (fun _ => ⟨c1 0 _ k0, c1 1 _ k1, c1 2 _ k2⟩) ?_
    clear hK K
    refine wpT_serial (by rfl) (by rfl) (fun K hK => ?_)
    go_simp
    refine (hev (w1) (w.heap.size + 4 + 1) b1 R1 (by omega)).mono ?_
    rintro e w2 ⟨rfl, S2, B2, c2, hz2, hk2⟩
    refine hK _ _ (fun _ => ⟨c2 0 _ k0, c2 1 _ k1, c2 2 _ k2⟩) ?_
    clear hK K
    have hE : w2.heap[w.heap.size + 4]? = some (.cells #[.bool false, .int .i64 0] 84) := (hk2 (w.heap.size + 4) (by omega) (by have := hb1.size; simp at this; omega) (by omega) (by omega)).trans ((hb1.block (w.heap.size + 4) (by simp; omega)).trans (by rw [← hzU]; exact heap_alloc_new U.drew _))
    have S3 := S2
    have p0 : w2.cell? ⟨w.heap.size + 4, 0, none⟩ = some (.bool false) := by rw [cell_of_row _ _ _ _ _ _ hE]; rfl
    have p1 : w2.cell? ⟨w.heap.size + 4, 1, none⟩ = some (.int .i64 0) := by rw [cell_of_row _ _ _ _ _ _ hE]; rfl
    have f0 : w2.frozen? ⟨w.heap.size + 4, 0, none⟩ = false := frozen_of_row _ _ _ _ _ hE
    have f1 : w2.frozen? ⟨w.heap.size + 4, 1, none⟩ = false := frozen_of_row _ _ _ _ _ hE
    have s0 : w2.setCell ⟨w.heap.size + 4, 0, none⟩ (.bool false) = w2 := set_self hE rfl
    have s1 : w2.setCell ⟨w.heap.size + 4, 1, none⟩ (.int .i64 0) = w2 := set_self hE rfl
    repeat (refine wpT_free (by rfl) (by rfl) (fun W => by (go_simp; try with_reducible rfl)) (fun K hK => ?_); go_simp; refine hK _ ?_; clear hK K)
    refine wpT_serial (by rfl) (by rfl) (fun K hK => ?_)
    go_simp
    refine hK _ _ (fun h => absurd h (by decide)) ?_
    clear hK K
    have B3 : Below w.heap.size w (w2) := B2
    have hz3 := B3.size
    have d0 : (w2).cell? ⟨w.heap.size + 4, 0, none⟩ = some (.bool false) := by rw [cell_of_row _ _ _ _ _ _ hE]; rfl
    have d1 : (w2).cell? ⟨w.heap.size + 4, 1, none⟩ = some (.int .i64 0) := by rw [cell_of_row _ _ _ _ _ _ hE]; rfl
    have q1 : (w2).cell? ⟨w.heap.size, 1, none⟩ = some (.int .u32 6) := S3.cell (j := 1) (by decide)
    have q2 : (w2).cell? ⟨w.heap.size, 2, none⟩ = some (.int .u32 5) := S3.cell (j := 2) (by decide)
    generalize w2 = W3 at *
    repeat (refine wpT_free (by rfl) (by rfl) (fun W => by (go_simp; try with_reducible rfl)) (fun K hK => ?_); go_simp; refine hK _ ?_; clear hK K)
    refine wpT_nil ?_
    go_wp2
    go_ret
    exact ⟨rfl, B3⟩
end Go.Proofs.YtflagpkmebdckaaGreatDoor
