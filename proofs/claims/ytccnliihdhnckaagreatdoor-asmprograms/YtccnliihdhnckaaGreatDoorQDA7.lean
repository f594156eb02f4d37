/-
  The document's AssembleOf: what it answers is the program's own function of the lines.
-/
import Derived.Deep.Cut
import Derived.Test.YtccnliihdhnckaaGreatDoorKDA5
import Derived.Test.YtccnliihdhnckaaGreatDoorQParseOf
namespace Go.Proofs.YtccnliihdhnckaaGreatDoor
open Go.RowKit Go.Shelf Go.Joins Go.Maps
open Num Tab Fm Txt
set_option linter.unusedVariables false
/-- what AssembleOf answers -/
def DocOut (B : Nat) (e : Ending) (w' : World) : Except (Int × Nat) (List Int) → Prop
  | .ok vs => ∃ v', e = .returned (.tuple #[v', .agg #[.int .i64 0, .int .i64 (-1)]]) ∧ w'.ownsRow (B + 1) 22 1 v' vs.length (vs.map u32V)
  | .error x => e = .returned (.tuple #[.slice none 0 0, .agg #[.int .i64 ((x.2 : Int) + 1), .int .i64 x.1]])
theorem results_tc {fn : Func} {p u : Tmp} {ty : TypeId} {A : Addr} {x : Value} (h : fn.results = #[.tmp u, .cell p ty]) (tmps : Array Value) (P : Program) (w : World) (hp : tmps.getD p undef = .pointer (some A)) (hl : (loadVar ty A).run P w = .ok x w) :
    (results fn tmps).run P w = .ok (.tuple #[tmps.getD u undef, x]) w := by
  simp only [results, h]
  simp only [asAddr, hp, Sem.run_bind, List.mapM_toArray, List.mapM_cons, List.mapM_nil, Sem.run_map, Sem.run_pure, Result.andThen, hl]
  simp
theorem fault_ld {w : World} {B : Nat} {c a : Int} (z0 : w.cell? ⟨B, 0, none⟩ = some (.int .i64 c)) (z1 : w.cell? ⟨B, 1, none⟩ = some (.int .i64 a)) : (loadVar 46 ⟨B, 0, none⟩).run Tryz.prog w = .ok (.agg #[.int .i64 c, .int .i64 a]) w := by
  simp [go_sem, z0, z1]
/-- the fault is told -/
theorem DS.told {w W : World} {vn vp vo : Value} {nm : List (List UInt8)} {pl ou : List Int} (D : DS w W vn vp vo nm pl ou) (c a : Int) :
    ((W.setCell ⟨w.heap.size, 0, none⟩ (.int .i64 c)).setCell ⟨w.heap.size, 1, none⟩ (.int .i64 a)).cell? ⟨w.heap.size, 0, none⟩ = some (.int .i64 c) ∧ ((W.setCell ⟨w.heap.size, 0, none⟩ (.int .i64 c)).setCell ⟨w.heap.size, 1, none⟩ (.int .i64 a)).cell? ⟨w.heap.size, 1, none⟩ = some (.int .i64 a) ∧ Below w.heap.size w ((W.setCell ⟨w.heap.size, 0, none⟩ (.int .i64 c)).setCell ⟨w.heap.size, 1, none⟩ (.int .i64 a)) := by
  have c0 := D.f0
  have c1 := D.f1
  have h1 : (W.setCell ⟨w.heap.size, 0, none⟩ (.int .i64 c)).cell? ⟨w.heap.size, 1, none⟩ = some (.int .i64 0) := by
    rw [World.cell?_setCell_other _ _ _ _ (by intro e; injection e with e1 e2; exact absurd e2 (by decide))]; exact c1
  refine ⟨?_, ?_, ?_⟩
  · rw [World.cell?_setCell_other _ _ _ _ (by intro e; injection e with e1 e2; exact absurd e2 (by decide)), World.cell?_setCell_same _ _ _ c0]
  · rw [World.cell?_setCell_same _ _ _ h1]
  · exact (D.bel.setCell (Nat.le_refl _) _).setCell (Nat.le_refl _) _
theorem DS.told2 {w W : World} {vn vp vo : Value} {nm : List (List UInt8)} {pl ou : List Int} (D : DS w W vn vp vo nm pl ou) (c a : Int) (o : Obj) :
    (((W.setCell ⟨w.heap.size, 0, none⟩ (.int .i64 c)).setCell ⟨w.heap.size, 1, none⟩ (.int .i64 a)).alloc o).cell? ⟨w.heap.size, 0, none⟩ = some (.int .i64 c) ∧ (((W.setCell ⟨w.heap.size, 0, none⟩ (.int .i64 c)).setCell ⟨w.heap.size, 1, none⟩ (.int .i64 a)).alloc o).cell? ⟨w.heap.size, 1, none⟩ = some (.int .i64 a) ∧ Below w.heap.size w (((W.setCell ⟨w.heap.size, 0, none⟩ (.int .i64 c)).setCell ⟨w.heap.size, 1, none⟩ (.int .i64 a)).alloc o) := by
  obtain ⟨h0, h1, h2⟩ := D.told c a
  generalize (W.setCell ⟨w.heap.size, 0, none⟩ (.int .i64 c)).setCell ⟨w.heap.size, 1, none⟩ (.int .i64 a) = X at *
  have hb : Below X.heap.size X (X.alloc o) := (Below.refl _ _).alloc (Nat.le_refl _) o
  exact ⟨by rw [hb.cell (cell_lt h0)]; exact h0, by rw [hb.cell (cell_lt h1)]; exact h1, h2.trans (hb.mono h2.size)⟩
theorem u32_cell (w : World) (x : Int) : ∀ (k : Nat) (u : Value), [u32V x][k]? = some u → (w.alloc (.cells #[.int .u32 x] 22)).cell? ((⟨w.heap.size, 0, none⟩ : Addr).add k) = some u := by
  intro k u hk
  rw [add_lit, cell_of_row _ _ _ _ _ _ (heap_alloc_new w _)]
  unfold u32V at hk
  simpa using hk
theorem u32_one (x : Int) : ∀ u ∈ [u32V x], u.oneCell' = true := by
  intro u hu; simp at hu; subst hu; rfl
structure L1 (org : Int) (ls : List (List UInt8)) (j : Nat) (ps : List Pt) (g : Lbs) (nm : List (List UInt8)) (pl : List Int) (R : Except (Int × Nat) (List Int)) : Prop where
  p : P1 ls j ps
  lg : LG org g nm pl
  ok : PsOk ps g
  l1 : ps.length ≤ j
  l2 : nm.length ≤ j
  k : asmK org (ls.drop j) j ps g = R
theorem pts_some {ls : List (List UInt8)} {ps : List Pt} {i : Nat} {l : List UInt8} {p : Pt} (h : ps = ptsF ls 0) (hl : ls[i]? = some l) (ho : ptO i l = some p) : ps.drop (ptsF (ls.take i) 0).length = p :: ps.drop ((ptsF (ls.take i) 0).length + 1) ∧ (ptsF (ls.take (i + 1)) 0).length = (ptsF (ls.take i) 0).length + 1 ∧ p ∈ ps := by
  obtain ⟨hi, hl'⟩ := List.getElem?_eq_some_iff.1 hl
  have e : ls.take (i + 1) = ls.take i ++ [l] := by rw [List.take_succ_eq_append_getElem hi, hl']
  have hm : (ls.take i).length = i := by simp; omega
  have h2 : ps = ptsF (ls.take i) 0 ++ (p :: ptsF (ls.drop (i + 1)) (i + 1)) := by
    rw [h]
    have e2 : ls = ls.take i ++ l :: ls.drop (i + 1) := by
      rw [← hl', ← List.drop_eq_getElem_cons hi]; exact (List.take_append_drop i ls).symm
    have h3 : ptsF ls 0 = ptsF (ls.take i ++ l :: ls.drop (i + 1)) 0 := congrArg (fun x => ptsF x 0) e2
    rw [h3, ptsF_app, hm, ptsF, Nat.zero_add, ho]; rfl
  refine ⟨?_, ?_, ?_⟩
  · have h4 : ps.drop (ptsF (ls.take i) 0).length = p :: ptsF (ls.drop (i + 1)) (i + 1) := by rw [h2]; exact List.drop_left' rfl
    rw [h4]
    have h5 : ps.drop ((ptsF (ls.take i) 0).length + 1) = (ps.drop (ptsF (ls.take i) 0).length).drop 1 := by rw [List.drop_drop]
    rw [h5, h4]; rfl
  · rw [e, ptsF_snoc, hm, Nat.zero_add, ho]; simp
  · rw [h2]; simp
theorem pts_none {ls : List (List UInt8)} {i : Nat} {l : List UInt8} (hl : ls[i]? = some l) (ho : ptO i l = none) : (ptsF (ls.take (i + 1)) 0).length = (ptsF (ls.take i) 0).length := by
  obtain ⟨hi, hl'⟩ := List.getElem?_eq_some_iff.1 hl
  have e : ls.take (i + 1) = ls.take i ++ [l] := by rw [List.take_succ_eq_append_getElem hi, hl']
  have hm : (ls.take i).length = i := by simp; omega
  rw [e, ptsF_snoc, hm, Nat.zero_add, ho]; simp
structure L2 (org : Int) (ls : List (List UInt8)) (i q : Nat) (vs : List Int) (ps : List Pt) (g : Lbs) (R : Except (Int × Nat) (List Int)) : Prop where
  vl : vs.length = q
  ql : q = (ptsF (ls.take i) 0).length
  k : finK org g (ps.drop q) q vs = R
theorem run_from (l : List UInt8) (q : Nat) (h : q ≤ l.length) (w : World) : (Instr.slice 9 (.string ⟨l.toArray⟩) (some (.int .i64 (q : Int))) none none).run Tryz.prog w = .ok (.string ⟨(l.drop q).toArray⟩) w := by
  have hx := ext_from l q h
  have hs : (⟨l.toArray⟩ : ByteArray).size = l.length := by show l.toArray.size = _; simp
  simp [Instr.slice, run_underlying Tryz.underlying9, go_sem]
  rw [if_pos (by omega), hx]
theorem fine_any (w : World) : Calls Tryz.prog 52 #[] w fun e w' => e = .returned (.agg #[.int .i64 0, .int .i64 (-1)]) ∧ Below w.heap.size w w' := by
  have hb : Below w.heap.size w (w.alloc (.cells #[.int .i64 0, .int .i64 (-1)] 46)) := (Below.refl _ _).alloc (Nat.le_refl _) _
  go_enter Tryz.func52, Tryz.ntmps52
  go_wp2
  exact bodyPost_ret (v := .agg #[.int .i64 0, .int .i64 (-1)]) (by simp [results, Tryz.results52, go_sem]) rfl ⟨rfl, hb⟩
theorem DS.told3 {w W : World} {vn vp vo : Value} {nm : List (List UInt8)} {pl ou : List Int} (D : DS w W vn vp vo nm pl ou) (c a : Int) :
    ((W.setCell ⟨w.heap.size, 0, none⟩ (.int .i64 c)).setCell ⟨w.heap.size, 1, none⟩ (.int .i64 a)).ownsRow (w.heap.size + 1) 22 1 vo ou.length (ou.map u32V) :=
  owns_blocks D.ro (fun k e => by
    have h := (D.ro.lt k e).1
    rw [Below.heap_setCell _ _ _ k (by show k ≠ w.heap.size; omega), Below.heap_setCell _ _ _ k (by show k ≠ w.heap.size; omega)])
theorem br_far (org tg q : Int) (t0 : 0 ≤ tg) (t1 : tg ≤ 200) (q0 : 0 ≤ q) (q1 : q ≤ 200) : sg (Num.lo (plc org tg - plc org (q + 1))) = 4 * (tg - (q + 1)) := by
  unfold sg Num.lo plc; split <;> omega
set_option maxRecDepth 100000 in
set_option maxHeartbeats 16000000 in
theorem assembleOf_any {w : World} {ao : Option Addr} {cap : Nat} {ls : List (List UInt8)} (X : TIn w ao ls) (hn : ls.length ≤ 200) (hls : ∀ l ∈ ls, l.length ≤ 900) (org : Int) (o0 : 0 ≤ org) (o1 : org < 4294967296) (oa : org % 4 = 0) :
    Calls Tryz.prog 17 #[.slice ao ls.length cap, .int .u32 org] w fun e w' => DocOut w.heap.size e w' (asmP ls org) ∧ Below w.heap.size w w' := by
  have HR : Hid (asmK org (ls.drop 0) 0 [] lNone = asmP ls org) := rfl
  generalize asmP ls org = R at HR ⊢
  have HX : Hid (TIn w ao ls) := X
  have HLS : Hid (∀ l ∈ ls, l.length ≤ 900) := hls
  have hn' : (ls.length : Int) ≤ 200 := by omega
  have S0 := DS.start w
  clear X hls
  obtain ⟨i9, hi9, iy0, iy1, iy2⟩ := info_parts info9
  obtain ⟨i2, hi2, iz0, iz1, iz2⟩ := info_parts info22
  go_enter Tryz.func17, Tryz.ntmps17
  go_upto_region 5 with fail
  clear oa
  have hsz : w.heap.size < (w.alloc (.cells #[.int .i64 0, .int .i64 0] 46)).heap.size := S0.flt
  generalize w.alloc (.cells #[.int .i64 0, .int .i64 0] 46) = W0 at *
  go_wp2
  go_loopw [6, 7, 8, 9] (fun vn vp vo i wr => ∃ (j : Nat) (ps : List Pt) (g : Lbs) (nm : List (List UInt8)) (pl : List Int), j ≤ ls.length ∧ i = .int .i64 j ∧ DS w wr vn vp vo nm pl (ps.map wP) ∧ Hid (L1 org ls j ps g nm pl R)) (fun _ _ _ i _ => ls.length - (intOf i).toNat)
  case atStart => exact ⟨0, [], lNone, [], [], Nat.zero_le _, rfl, S0, ⟨P1.nil ls, LG.nil org, PsOk.nil, Nat.le_refl _, Nat.le_refl _, HR.out⟩⟩
  case round =>
    obtain ⟨j, ps, g, nm, pl, hj, rfl, D, HL⟩ := hrel
    clear S0 HR
    by_cases hlt : j < ls.length
    · obtain ⟨l, hl⟩ : ∃ l, ls[j]? = some l := ⟨_, List.getElem?_eq_getElem hlt⟩
      obtain ⟨bq, off, rfl, hcs⟩ := HX.out.sh (by omega)
      have hlen : l.length ≤ 900 := HLS.out l (List.mem_of_getElem? hl)
      have hlen' : (l.length : Int) ≤ 900 := by omega
      have HDR : Hid (ls.drop j = l :: ls.drop (j + 1)) := by
        show _ = _
        rw [List.drop_eq_getElem_cons hlt]; congr 1; rw [List.getElem?_eq_getElem hlt] at hl; injection hl
      have HLJ : Hid (ls[j]? = some l) := hl
      have hc0 := hcs j l hl
      have hcw : wr.cell? ⟨bq, off + j, none⟩ = some (.string ⟨l.toArray⟩) := by
        rw [D.bel.cell (cell_lt hc0)]; exact hc0
      have hlt' : (j : Int) < ls.length := by omega
      have f0 := D.f0
      have f1 := D.f1
      have z0 := D.ff 0
      have z1 := D.ff 1
      have hlk := lineKind_any l (by omega)
      have HD : Hid (DS w wr u6 u7 u8 nm pl (ps.map wP)) := D
      clear D hcs hc0 hl
      go_wp2_with fail
      refine (hlk _).mono ?_
      rintro e w1 ⟨rfl, hw⟩
      rw [hw]
      clear hw hlk
      rcases lk_all l with hk | hk | hk
      · rw [hk]
        have hs := lk_108 hk
        obtain ⟨n, hnl⟩ : ∃ n, l.length = n + 1 := by
          obtain ⟨t, ht⟩ := suf_split hs
          exact ⟨t.length, by rw [ht]; simp⟩
        have hz : (l.length : Int) - 1 = n := by omega
        have hn0 : (n : Int) < l.length := by omega
        have het := ext_take l n
        have HT : Hid (l.take (l.length - 1) = l.take n) := by show _ = _; rw [hnl]; rfl
        have his := fun W => isLabel_any (l.take n) (by simp; omega) W
        have hxl : (l.take n).length ≤ 900 := by simp; omega
        generalize l.take n = x at *
        have HK : Hid (lkOf l = 108) := hk
        clear hk hs hnl
        cases hnm : isNm x with
        | false =>
          rw [hnm] at his
          have HF : Hid (R = .error ((j : Int), 0)) := by
            show R = _
            rw [← HL.out.k, HDR.out]; exact asmK_err (add_l0 HK.out (by rw [HT.out]; exact hnm) j ps g)
          obtain ⟨t0, t1, tb⟩ := HD.out.told 1 (j : Int)
          clear HL HDR HT hnm
          go_wp2_with (go_at_call 47; refine (his _).mono ?_; rintro e w2 ⟨rfl, hw2⟩; rw [hw2]; clear hw2)
          refine bodyPost_ret (results_tc Tryz.results17 _ _ _ (A := ⟨w.heap.size, 0, none⟩) rfl (fault_ld t0 t1)) rfl ⟨?_, tb⟩
          rw [HF.out]; rfl
        | true =>
          rw [hnm] at his
          have HA : Hid (addP j l ps g = if (g x).isSome then .error 6 else .ok (ps, lPut g x ps.length)) := by
            show _ = _
            have := add_l1 HK.out (by rw [HT.out]; exact hnm) j ps g
            rw [HT.out] at this; exact this
          obtain ⟨no, ncap, hvn, hno⟩ := row_shape HD.out.rn
          subst hvn
          have HNO : Hid (0 < nm.length → ∃ q, no = some ⟨q, 0, none⟩) := hno
          obtain ⟨oo, ocap, hvo, _⟩ := row_shape HD.out.ro
          subst hvo
          rw [List.length_map] at HD
          have hnl2 : nm.length ≤ 200 := by have := HL.out.l2; omega
          have hpl2 : ps.length ≤ 200 := by have := HL.out.l1; omega
          have hnl3 : (nm.length : Int) ≤ 200 := by omega
          have hpl3 : (ps.length : Int) ≤ 200 := by omega
          clear hno HT hnm
          rw [List.length_map]
          go_wp2_with (go_at_call 47; refine (his _).mono ?_; rintro e w2 ⟨rfl, hw2⟩; rw [hw2]; clear hw2)
          clear his het hz hn0
          go_loop [13] (fun y => ∃ k : Nat, k ≤ nm.length ∧ y = .int .i64 k ∧ Hid (x ∉ nm.take k)) (fun y => nm.length - (intOf y).toNat)
          case atStart => exact ⟨0, Nat.zero_le _, rfl, by show _ ∉ _; simp⟩
          case round =>
            obtain ⟨k, hkn, rfl, HI⟩ := hrel
            by_cases hk2 : k < nm.length
            · obtain ⟨s, hs⟩ : ∃ s, nm[k]? = some s := ⟨_, List.getElem?_eq_getElem hk2⟩
              obtain ⟨q, rfl⟩ := HNO.out (by omega)
              have hcq := HD.out.rn.cells (g := q) rfl k (strV s) (by rw [List.getElem?_map, hs]; rfl)
              rw [add_lit] at hcq
              unfold strV at hcq
              have hk2' : (k : Int) < nm.length := by omega
              have HS : Hid (nm[k]? = some s) := hs
              clear hs
              by_cases he : s = x
              · have hb : (s == x) = true := by simpa using he
                have HF : Hid (R = .error ((j : Int), 6)) := by
                  show R = _
                  rw [← HL.out.k, HDR.out]
                  refine asmK_err ?_
                  rw [HA.out, if_pos ((HL.out.lg.isSome x).2 (by rw [← he]; exact List.mem_of_getElem? HS.out))]
                obtain ⟨t0, t1, tb⟩ := HD.out.told 7 (j : Int)
                clear HL HDR HA he
                go_wp2
                refine bodyPost_ret (results_tc Tryz.results17 _ _ _ (A := ⟨w.heap.size, 0, none⟩) rfl (fault_ld t0 t1)) rfl ⟨?_, tb⟩
                rw [HF.out]; rfl
              · have hb : (s == x) = false := by simpa using he
                have HI2 : Hid (x ∉ nm.take (k + 1)) := by
                  show _ ∉ _
                  rw [List.take_add_one, HS.out]
                  simp
                  exact ⟨HI.out, fun e => he e.symm⟩
                clear he
                go_wp2
                go_round
                case rel => exact ⟨k + 1, by omega, by go_num, HI2⟩
                case measure => simp [intOf]; omega
            · have HNI : Hid (x ∉ nm) := by
                have h := HI.out
                rw [List.take_of_length_le (by omega)] at h; exact h
              have HAD : Hid (addP j l ps g = .ok (ps, lPut g x ps.length)) := by
                show _ = _
                rw [HA.out, if_neg (fun h => HNI.out ((HL.out.lg.isSome x).1 h))]
              have HL2 : Hid (L1 org ls (j + 1) ps (lPut g x ps.length) (nm ++ [x]) (pl ++ [plc org ps.length]) R) := by
                have ho : ptO j l = none := by unfold ptO; rw [if_pos HK.out]
                have hp := HL.out.p.next HLJ.out hlt (Or.inl HK.out)
                rw [ho] at hp
                refine ⟨by simpa using hp, HL.out.lg.put HNI.out _, (HL.out.ok.add (by omega) HAD.out).1, by have := HL.out.l1; omega, by have := HL.out.l2; simp; omega, ?_⟩
                rw [← HL.out.k, HDR.out]; exact (asmK_ok HAD.out).symm
              have H1 : Hid (DS w (wr.alloc (.cells #[.string ⟨x.toArray⟩] 9)) (.slice no nm.length ncap) u7 (.slice oo ps.length ocap) nm pl (ps.map wP)) := HD.out.more _
              have hwz := HD.out.bel.size
              have hwo := fun W => word_any (org + 4 * ps.length) (by omega) (by omega) W
              have hpl4 : pl.length ≤ 200 := by rw [HL.out.lg.len]; exact hnl2
              clear HA HAD HNI HI HL HDR HD f0 f1 z0 z1
              go_wp2_with (at_builtin; refine wpList_append_moved rfl _ _ 39 rfl (w.heap.size + 1) 9 i9 _ 1 16 Tryz.underlying39 hi9 iy0 iy1 iy2 rfl (by decide) (.slice no nm.length ncap) _ _ rfl H1.out.rn ⟨wr.heap.size, 0, none⟩ 1 1 [strV x] rfl rfl (str_cell wr x) (str_one _) (by unfold maxLen; omega) (by omega) (by simp; omega) ?_; intro v' w2 ho hg hm; have HN : Hid _ := H1.out.addN x ho hg hm; clear ho hg hm)
              refine (hwo _).mono ?_
              rintro e w3 ⟨rfl, hw3⟩
              rw [hw3]
              clear hw3 hwo
              have H2 : Hid (DS w (w2.alloc (.cells #[.int .u32 (Num.lo (org + 4 * ps.length))] 22)) v' u7 (.slice oo ps.length ocap) (nm ++ [x]) pl (ps.map wP)) := HN.out.more _
              have hwz2 := HN.out.bel.size
              clear HN H1
              go_wp2_with (at_builtin; refine wpList_append_moved rfl _ _ 41 rfl (w.heap.size + 1) 22 i2 _ 1 4 Tryz.underlying41 hi2 iz0 iz1 iz2 rfl (by decide) u7 _ _ rfl H2.out.rp ⟨w2.heap.size, 0, none⟩ 1 1 [u32V (Num.lo (org + 4 * ps.length))] rfl rfl (u32_cell w2 _) (u32_one _) (by unfold maxLen; omega) (by omega) (by simp; omega) ?_; intro v2 w4 ho hg hm; have HN2 : Hid _ := H2.out.addP _ ho hg hm; clear ho hg hm)
              go_roundw
              case rel => exact ⟨j + 1, ps, lPut g x ps.length, nm ++ [x], pl ++ [plc org ps.length], by omega, by go_num, HN2.out, HL2⟩
              case measure => simp [intOf]; omega
      · rw [hk]
        have HW : Hid (wdOf l = (match wordS l with | some n => n | none => -1)) := wd_eq (lk_119 hk)
        have HK : Hid (lkOf l = 119) := hk
        have HBAD : Hid (wdOf l = -1 → R = .error ((j : Int), 0)) := fun h => by
          rw [← HL.out.k, HDR.out]
          refine asmK_err (add_w0 HK.out ?_ j ps g)
          cases hw : wordS l with
          | none => rfl
          | some n =>
            have h2 := HW.out
            rw [hw, h] at h2
            have := wordS_rng hw
            simp only at h2
            omega
        obtain ⟨t0, t1, tb⟩ := HD.out.told 1 (j : Int)
        have hp5 : 5 ≤ l.length := by
          obtain ⟨r, hr⟩ := pre_split (lk_119 hk)
          rw [hr]; simp
        clear hk
        by_cases hc6 : 6 < (l.length : Int)
        · have h5l : 5 < l.length := by omega
          have hiq : ∀ h, (⟨l.toArray⟩ : ByteArray)[5]'h = l[5] := fun _ => rfl
          have hgd : l.getD 5 0 = l[5] := by rw [List.getD_eq_getElem?_getD, List.getElem?_eq_getElem h5l]; rfl
          by_cases h32 : (l[5].toNat : Int) = 32
          · have e32 : ((l[5].toNat : Int) == 32) = true := by simpa using h32
            have HV : Hid (wdOf l = woOf (l.drop 6)) := by
              show _ = _
              unfold wdOf
              rw [if_pos ⟨by omega, by rw [hgd]; exact UInt8.toNat_inj.mp (by show _ = 32; omega)⟩]
            have hef := ext_from l 6 (by omega)
            have hwf := fun W => wordOf_any (l.drop 6) (by simp; omega) W
            clear h32 hgd
            generalize l.drop 6 = dl at *
            cases hws : wordS l with
            | none =>
              have hv : woOf dl = -1 := by rw [← HV.out, HW.out, hws]
              have HF : Hid (R = .error ((j : Int), 0)) := HBAD.out (by rw [HV.out, hv])
              rw [hv] at hwf
              clear HBAD HL HDR HW HV hws hv
              go_wp2_with (go_at_call 48; refine (hwf _).mono ?_; rintro e w2 ⟨rfl, hw2⟩; rw [hw2]; clear hw2)
              refine bodyPost_ret (results_tc Tryz.results17 _ _ _ (A := ⟨w.heap.size, 0, none⟩) rfl (fault_ld t0 t1)) rfl ⟨?_, tb⟩
              rw [HF.out]; rfl
            | some n =>
              have hv : woOf dl = n := by rw [← HV.out, HW.out, hws]
              obtain ⟨n0, n1⟩ := wordS_rng hws
              rw [hv] at hwf
              have HAD : Hid (addP j l ps g = .ok (ps ++ [⟨j, n, 0, ⟨0, 0, 0, 0⟩, []⟩], g)) := add_w1 HK.out hws j ps g
              have HL2 : Hid (L1 org ls (j + 1) (ps ++ [⟨j, n, 0, ⟨0, 0, 0, 0⟩, []⟩]) g nm pl R) := by
                have ho : ptO j l = some ⟨j, n, 0, ⟨0, 0, 0, 0⟩, []⟩ := by unfold ptO; rw [if_neg (by rw [HK.out]; decide), if_pos HK.out, hws]
                have hp := HL.out.p.next HLJ.out hlt (Or.inr ⟨_, ho⟩)
                rw [ho] at hp
                refine ⟨hp, HL.out.lg, (HL.out.ok.add (by omega) HAD.out).1, by have := HL.out.l1; simp; omega, by have := HL.out.l2; omega, ?_⟩
                rw [← HL.out.k, HDR.out]; exact (asmK_ok HAD.out).symm
              have hpl2 : ps.length ≤ 200 := by have := HL.out.l1; omega
              have H1 : Hid (DS w (wr.alloc (.cells #[.int .u32 n] 22)) u6 u7 u8 nm pl (ps.map wP)) := HD.out.more _
              have hwz := HD.out.bel.size
              have hlm : (ps.map wP).length = ps.length := List.length_map _
              clear HBAD HL HDR HW HV hws hv HAD HD t0 t1 tb f0 f1 z0 z1
              go_wp2_with (first | (go_at_call 48; refine (hwf _).mono ?_; rintro e w2 ⟨rfl, hw2⟩; rw [hw2]; clear hw2) | (at_builtin; refine wpList_append_moved rfl _ _ 41 rfl (w.heap.size + 1) 22 i2 _ 1 4 Tryz.underlying41 hi2 iz0 iz1 iz2 rfl (by decide) u8 _ _ rfl H1.out.ro ⟨wr.heap.size, 0, none⟩ 1 1 [u32V n] rfl rfl (u32_cell wr _) (u32_one _) (by unfold maxLen; omega) (by omega) (by simp; omega) ?_; intro v2 w4 ho hg hm; have HN2 : Hid _ := H1.out.addO _ ho hg hm; clear ho hg hm))
              go_roundw
              case rel => exact ⟨j + 1, ps ++ [⟨j, n, 0, ⟨0, 0, 0, 0⟩, []⟩], g, nm, pl, by omega, by go_num, by have h := HN2.out; rw [List.map_append]; exact h, HL2⟩
              case measure => simp [intOf]; omega
          · have e32 : ((l[5].toNat : Int) == 32) = false := by simpa using h32
            have HF : Hid (R = .error ((j : Int), 0)) := HBAD.out (by
              unfold wdOf
              rw [if_neg (fun h => h32 (by have := h.2; rw [hgd] at this; rw [this]; rfl))])
            clear HBAD HL HDR HW h32 hgd
            go_wp2
            refine bodyPost_ret (results_tc Tryz.results17 _ _ _ (A := ⟨w.heap.size, 0, none⟩) rfl (fault_ld t0 t1)) rfl ⟨?_, tb⟩
            rw [HF.out]; rfl
        · have HF : Hid (R = .error ((j : Int), 0)) := HBAD.out (by
            unfold wdOf
            rw [if_neg (fun h => hc6 (by have := h.1; omega))])
          clear HBAD HL HDR HW
          go_wp2
          refine bodyPost_ret (results_tc Tryz.results17 _ _ _ (A := ⟨w.heap.size, 0, none⟩) rfl (fault_ld t0 t1)) rfl ⟨?_, tb⟩
          rw [HF.out]; rfl
      · rw [hk]
        have HK : Hid (lkOf l = 105) := hk
        have hla := fun W => labelOf_any l (by omega) W
        have HAI := add_i hk j ps g
        have HAH : Hid (addP j l ps g = (match parseS (cutT l) with
          | .name => .error 4
          | .text => .error 0
          | .bound => .error 1
          | .ok k f => .ok (ps ++ [⟨j, 0, k, f, cutN l⟩], g))) := HAI
        clear hk HAI
        go_wp2_with fail
        refine (hla _).mono ?_
        rintro e w2 ⟨rfl, hb2⟩
        have HD2 : Hid (DS w w2 u6 u7 u8 nm pl (ps.map wP)) := HD.out.stays hb2
        clear hla hb2 HD f0 f1 z0 z1 hcw
        have HTX : Hid (txOf l = if 0 ≤ labOf l then l.take (labOf l).toNat ++ [48] else l) := rfl
        have HPS : Hid (parseS (txOf l) = parseS (cutT l)) := tx_parse l
        have htl : (txOf l).length ≤ 1000 := by
          rw [HTX.out]
          split
          · simp; omega
          · omega
        have hpo := fun W => parseOf_any (txOf l) htl W
        have hlb : labOf l = -1 ∨ ∃ q : Nat, labOf l = q ∧ q ≤ l.length := by
          rcases lab_cases l with ⟨h0, h1, _, _⟩ | ⟨h0, _⟩ | ⟨h0, _⟩
          · exact Or.inr ⟨lsi l, h1, (lsi_eq l).2⟩
          · exact Or.inl h0
          · exact Or.inl h0
        rcases hlb with hm | ⟨q, hq, hql⟩
        · have htx : txOf l = l := by rw [HTX.out, if_neg (by omega)]
          rw [hm]
          rw [htx] at HPS hpo
          clear HTX htx hm htl
          go_wp2_with fail
          refine (hpo _).mono ?_
          rintro e w3 ⟨rfl, hb3⟩
          have HD3 : Hid (DS w w3 u6 u7 u8 nm pl (ps.map wP)) := HD2.out.stays hb3
          have hflt := HD3.out.flt
          have f0 := HD3.out.f0
          have f1 := HD3.out.f1
          have z0 := HD3.out.ff 0
          have z1 := HD3.out.ff 1
          clear hpo hb3 HD2
          cases hp : parseS (cutT l) with
          | name =>
            have hv : poV (l) = .tuple #[ins 0 0 0 0 0, .int .i64 5] := by unfold poV; rw [HPS.out, hp]
            rw [hv]
            have HF : Hid (R = .error ((j : Int), 4)) := by
              show R = _
              rw [← HL.out.k, HDR.out]
              refine asmK_err ?_
              rw [HAH.out, hp]
            obtain ⟨t0, t1, tb⟩ := HD3.out.told2 5 (j : Int) (.cells #[.int .i64 0, .int .i64 0, .int .i64 0, .int .i64 0, .int .u32 0] 24)
            clear HL HDR HAH HPS hv hp
            go_wp2
            refine bodyPost_ret (results_tc Tryz.results17 _ _ _ (A := ⟨w.heap.size, 0, none⟩) rfl (fault_ld t0 t1)) rfl ⟨?_, tb⟩
            rw [HF.out]; rfl
          | text =>
            have hv : poV (l) = .tuple #[ins 0 0 0 0 0, .int .i64 1] := by unfold poV; rw [HPS.out, hp]
            rw [hv]
            have HF : Hid (R = .error ((j : Int), 0)) := by
              show R = _
              rw [← HL.out.k, HDR.out]
              refine asmK_err ?_
              rw [HAH.out, hp]
            obtain ⟨t0, t1, tb⟩ := HD3.out.told2 1 (j : Int) (.cells #[.int .i64 0, .int .i64 0, .int .i64 0, .int .i64 0, .int .u32 0] 24)
            clear HL HDR HAH HPS hv hp
            go_wp2
            refine bodyPost_ret (results_tc Tryz.results17 _ _ _ (A := ⟨w.heap.size, 0, none⟩) rfl (fault_ld t0 t1)) rfl ⟨?_, tb⟩
            rw [HF.out]; rfl
          | bound =>
            have hv : poV (l) = .tuple #[ins 0 0 0 0 0, .int .i64 2] := by unfold poV; rw [HPS.out, hp]
            rw [hv]
            have HF : Hid (R = .error ((j : Int), 1)) := by
              show R = _
              rw [← HL.out.k, HDR.out]
              refine asmK_err ?_
              rw [HAH.out, hp]
            obtain ⟨t0, t1, tb⟩ := HD3.out.told2 2 (j : Int) (.cells #[.int .i64 0, .int .i64 0, .int .i64 0, .int .i64 0, .int .u32 0] 24)
            clear HL HDR HAH HPS hv hp
            go_wp2
            refine bodyPost_ret (results_tc Tryz.results17 _ _ _ (A := ⟨w.heap.size, 0, none⟩) rfl (fault_ld t0 t1)) rfl ⟨?_, tb⟩
            rw [HF.out]; rfl
          | ok k f =>
            have hv : poV (l) = .tuple #[ins k f.s f.t f.d f.m, .int .i64 0] := by unfold poV; rw [HPS.out, hp]
            rw [hv]
            obtain ⟨k1, k2, okf, _⟩ := parse_ok _ _ _ hp
            obtain ⟨m0, m1⟩ := ok_m okf k2
            have hen := fun W => encodeOf_ok k k2 k1 f.s f.t f.d f.m m0 m1 okf.1 W
            have HAD : Hid (addP j l ps g = .ok (ps ++ [⟨j, 0, k, f, cutN l⟩], g)) := by show _ = _; rw [HAH.out, hp]
            have HL2 : Hid (L1 org ls (j + 1) (ps ++ [⟨j, 0, k, f, cutN l⟩]) g nm pl R) := by
              have ho : ptO j l = some ⟨j, 0, k, f, cutN l⟩ := by unfold ptO; rw [if_neg (by rw [HK.out]; decide), if_neg (by rw [HK.out]; decide), hp]
              have hp := HL.out.p.next HLJ.out hlt (Or.inr ⟨_, ho⟩)
              rw [ho] at hp
              refine ⟨hp, HL.out.lg, (HL.out.ok.add (by omega) HAD.out).1, by have := HL.out.l1; simp; omega, by have := HL.out.l2; omega, ?_⟩
              rw [← HL.out.k, HDR.out]; exact (asmK_ok HAD.out).symm
            have hpl2 : ps.length ≤ 200 := by have := HL.out.l1; omega
            have HWP : Hid (wP ⟨j, 0, k, f, cutN l⟩ = enc k f.s f.t f.d f.m) := by show _ = _; unfold wP; rw [if_neg (by show ¬ k = 0; omega)]
            have HB : Hid (Below w3.heap.size w3 (w3.alloc (.cells #[.int .i64 k, .int .i64 f.s, .int .i64 f.t, .int .i64 f.d, .int .u32 f.m] 24))) := (Below.refl _ _).alloc (Nat.le_refl _) _
            clear HL HDR HAH HPS hv hp HAD f0 f1 z0 z1 okf m0 m1
            go_wp2_with fail
            refine (hen _).mono ?_
            rintro e w5 ⟨rfl, hb5⟩
            have HD5 : Hid (DS w w5 u6 u7 u8 nm pl (ps.map wP)) := (HD3.out.stays HB.out).stays hb5
            have H1 : Hid (DS w (w5.alloc (.cells #[.int .u32 (enc k f.s f.t f.d f.m)] 22)) u6 u7 u8 nm pl (ps.map wP)) := HD5.out.more _
            have hwz := HD5.out.bel.size
            have hlm : (ps.map wP).length = ps.length := List.length_map _
            clear hen hb5 HB HD3 HD5
            generalize enc k f.s f.t f.d f.m = en at *
            go_wp2_with (at_builtin; refine wpList_append_moved rfl _ _ 41 rfl (w.heap.size + 1) 22 i2 _ 1 4 Tryz.underlying41 hi2 iz0 iz1 iz2 rfl (by decide) u8 _ _ rfl H1.out.ro ⟨w5.heap.size, 0, none⟩ 1 1 [u32V en] rfl rfl (u32_cell w5 _) (u32_one _) (by unfold maxLen; omega) (by omega) (by simp; omega) ?_; intro v2 w4 ho hg hm; have HN2 : Hid _ := H1.out.addO _ ho hg hm; clear ho hg hm)
            go_roundw
            case rel => exact ⟨j + 1, ps ++ [⟨j, 0, k, f, cutN l⟩], g, nm, pl, by omega, by go_num, by have h := HN2.out; rw [List.map_append, List.map_cons, HWP.out]; exact h, HL2⟩
            case measure => simp [intOf]; omega
        · have htx : txOf l = l.take q ++ [48] := by rw [HTX.out, if_pos (by omega), hq]; rfl
          have hbs : (⟨(l.take q ++ [48]).toArray⟩ : ByteArray) = ⟨(l.take q).toArray⟩ ++ ⟨#[48]⟩ := by apply ByteArray.ext; simp
          have hq0 : (0 : Int) ≤ q := by omega
          have hq1 : (q : Int) ≤ l.length := by omega
          have het := ext_take l q
          have hlt2 : ((l.take q).length : Int) ≤ 1000 := by simp; omega
          rw [hq]
          rw [htx] at HPS hpo
          rw [hbs] at hpo
          clear HTX htx hq htl hbs
          go_wp2_with fail
          refine (hpo _).mono ?_
          rintro e w3 ⟨rfl, hb3⟩
          have HD3 : Hid (DS w w3 u6 u7 u8 nm pl (ps.map wP)) := HD2.out.stays hb3
          have hflt := HD3.out.flt
          have f0 := HD3.out.f0
          have f1 := HD3.out.f1
          have z0 := HD3.out.ff 0
          have z1 := HD3.out.ff 1
          clear hpo hb3 HD2
          cases hp : parseS (cutT l) with
          | name =>
            have hv : poV (l.take q ++ [48]) = .tuple #[ins 0 0 0 0 0, .int .i64 5] := by unfold poV; rw [HPS.out, hp]
            rw [hv]
            have HF : Hid (R = .error ((j : Int), 4)) := by
              show R = _
              rw [← HL.out.k, HDR.out]
              refine asmK_err ?_
              rw [HAH.out, hp]
            obtain ⟨t0, t1, tb⟩ := HD3.out.told2 5 (j : Int) (.cells #[.int .i64 0, .int .i64 0, .int .i64 0, .int .i64 0, .int .u32 0] 24)
            clear HL HDR HAH HPS hv hp
            go_wp2
            refine bodyPost_ret (results_tc Tryz.results17 _ _ _ (A := ⟨w.heap.size, 0, none⟩) rfl (fault_ld t0 t1)) rfl ⟨?_, tb⟩
            rw [HF.out]; rfl
          | text =>
            have hv : poV (l.take q ++ [48]) = .tuple #[ins 0 0 0 0 0, .int .i64 1] := by unfold poV; rw [HPS.out, hp]
            rw [hv]
            have HF : Hid (R = .error ((j : Int), 0)) := by
              show R = _
              rw [← HL.out.k, HDR.out]
              refine asmK_err ?_
              rw [HAH.out, hp]
            obtain ⟨t0, t1, tb⟩ := HD3.out.told2 1 (j : Int) (.cells #[.int .i64 0, .int .i64 0, .int .i64 0, .int .i64 0, .int .u32 0] 24)
            clear HL HDR HAH HPS hv hp
            go_wp2
            refine bodyPost_ret (results_tc Tryz.results17 _ _ _ (A := ⟨w.heap.size, 0, none⟩) rfl (fault_ld t0 t1)) rfl ⟨?_, tb⟩
            rw [HF.out]; rfl
          | bound =>
            have hv : poV (l.take q ++ [48]) = .tuple #[ins 0 0 0 0 0, .int .i64 2] := by unfold poV; rw [HPS.out, hp]
            rw [hv]
            have HF : Hid (R = .error ((j : Int), 1)) := by
              show R = _
              rw [← HL.out.k, HDR.out]
              refine asmK_err ?_
              rw [HAH.out, hp]
            obtain ⟨t0, t1, tb⟩ := HD3.out.told2 2 (j : Int) (.cells #[.int .i64 0, .int .i64 0, .int .i64 0, .int .i64 0, .int .u32 0] 24)
            clear HL HDR HAH HPS hv hp
            go_wp2
            refine bodyPost_ret (results_tc Tryz.results17 _ _ _ (A := ⟨w.heap.size, 0, none⟩) rfl (fault_ld t0 t1)) rfl ⟨?_, tb⟩
            rw [HF.out]; rfl
          | ok k f =>
            have hv : poV (l.take q ++ [48]) = .tuple #[ins k f.s f.t f.d f.m, .int .i64 0] := by unfold poV; rw [HPS.out, hp]
            rw [hv]
            obtain ⟨k1, k2, okf, _⟩ := parse_ok _ _ _ hp
            obtain ⟨m0, m1⟩ := ok_m okf k2
            have hen := fun W => encodeOf_ok k k2 k1 f.s f.t f.d f.m m0 m1 okf.1 W
            have HAD : Hid (addP j l ps g = .ok (ps ++ [⟨j, 0, k, f, cutN l⟩], g)) := by show _ = _; rw [HAH.out, hp]
            have HL2 : Hid (L1 org ls (j + 1) (ps ++ [⟨j, 0, k, f, cutN l⟩]) g nm pl R) := by
              have ho : ptO j l = some ⟨j, 0, k, f, cutN l⟩ := by unfold ptO; rw [if_neg (by rw [HK.out]; decide), if_neg (by rw [HK.out]; decide), hp]
              have hp := HL.out.p.next HLJ.out hlt (Or.inr ⟨_, ho⟩)
              rw [ho] at hp
              refine ⟨hp, HL.out.lg, (HL.out.ok.add (by omega) HAD.out).1, by have := HL.out.l1; simp; omega, by have := HL.out.l2; omega, ?_⟩
              rw [← HL.out.k, HDR.out]; exact (asmK_ok HAD.out).symm
            have hpl2 : ps.length ≤ 200 := by have := HL.out.l1; omega
            have HWP : Hid (wP ⟨j, 0, k, f, cutN l⟩ = enc k f.s f.t f.d f.m) := by show _ = _; unfold wP; rw [if_neg (by show ¬ k = 0; omega)]
            have HB : Hid (Below w3.heap.size w3 (w3.alloc (.cells #[.int .i64 k, .int .i64 f.s, .int .i64 f.t, .int .i64 f.d, .int .u32 f.m] 24))) := (Below.refl _ _).alloc (Nat.le_refl _) _
            clear HL HDR HAH HPS hv hp HAD f0 f1 z0 z1 okf m0 m1
            go_wp2_with fail
            refine (hen _).mono ?_
            rintro e w5 ⟨rfl, hb5⟩
            have HD5 : Hid (DS w w5 u6 u7 u8 nm pl (ps.map wP)) := (HD3.out.stays HB.out).stays hb5
            have H1 : Hid (DS w (w5.alloc (.cells #[.int .u32 (enc k f.s f.t f.d f.m)] 22)) u6 u7 u8 nm pl (ps.map wP)) := HD5.out.more _
            have hwz := HD5.out.bel.size
            have hlm : (ps.map wP).length = ps.length := List.length_map _
            clear hen hb5 HB HD3 HD5
            generalize enc k f.s f.t f.d f.m = en at *
            go_wp2_with (at_builtin; refine wpList_append_moved rfl _ _ 41 rfl (w.heap.size + 1) 22 i2 _ 1 4 Tryz.underlying41 hi2 iz0 iz1 iz2 rfl (by decide) u8 _ _ rfl H1.out.ro ⟨w5.heap.size, 0, none⟩ 1 1 [u32V en] rfl rfl (u32_cell w5 _) (u32_one _) (by unfold maxLen; omega) (by omega) (by simp; omega) ?_; intro v2 w4 ho hg hm; have HN2 : Hid _ := H1.out.addO _ ho hg hm; clear ho hg hm)
            go_roundw
            case rel => exact ⟨j + 1, ps ++ [⟨j, 0, k, f, cutN l⟩], g, nm, pl, by omega, by go_num, by have h := HN2.out; rw [List.map_append, List.map_cons, HWP.out]; exact h, HL2⟩
            case measure => simp [intOf]; omega
    · have hje : j = ls.length := by omega
      subst hje
      have HK0 : Hid (finK org g (ps.drop 0) 0 [] = R) := by
        show _ = R
        have h := HL.out.k
        rw [List.drop_length, asmK_nil] at h
        rw [List.drop_zero, finK_0]; exact h
      have HP : Hid (ps = ptsF ls 0 ∧ ∀ i l, ls[i]? = some l → lkOf l = 108 ∨ ∃ p, ptO i l = some p) :=
        ⟨by have h := HL.out.p.ps; rw [List.take_length] at h; exact h, fun i l h => HL.out.p.all i l (List.getElem?_eq_some_iff.1 h).1 h⟩
      have HG : Hid (LG org g nm pl ∧ PsOk ps g) := ⟨HL.out.lg, HL.out.ok⟩
      have hps : (ps.length : Int) ≤ 200 := by have := HL.out.l1; omega
      have hnm : (nm.length : Int) ≤ 200 := by have := HL.out.l2; omega
      obtain ⟨no, ncap, hvn, hno⟩ := row_shape D.rn
      obtain ⟨po, pcap, hvp, hpo⟩ := row_shape D.rp
      obtain ⟨oo, ocap, hvo, hoo⟩ := row_shape D.ro
      subst hvn hvp hvo
      rw [HL.out.lg.len] at D hpo
      rw [List.length_map] at D hoo
      rw [HL.out.lg.len, List.length_map]
      have HNO : Hid (0 < nm.length → ∃ q, no = some ⟨q, 0, none⟩) := hno
      have HPO : Hid (0 < nm.length → ∃ q, po = some ⟨q, 0, none⟩) := hpo
      have HOO : Hid (0 < ps.length → ∃ q, oo = some ⟨q, 0, none⟩) := hoo
      have HD0 : Hid (DS w wr (.slice no nm.length ncap) (.slice po nm.length pcap) (.slice oo ps.length ocap) nm pl (ouF [] (ps.drop 0))) := D
      clear D HL hno hpo hoo hj hlt
      go_wp2_with fail
      go_loopw [21, 22] (fun qv iv wq => ∃ (i q : Nat) (vs : List Int), i ≤ ls.length ∧ iv = .int .i64 i ∧ qv = .int .i64 q ∧ DS w wq (.slice no nm.length ncap) (.slice po nm.length pcap) (.slice oo ps.length ocap) nm pl (ouF vs (ps.drop q)) ∧ Hid (L2 org ls i q vs ps g R)) (fun _ iv _ => ls.length - (intOf iv).toNat)
      case atStart => exact ⟨0, 0, [], Nat.zero_le _, rfl, rfl, HD0.out, ⟨rfl, rfl, HK0.out⟩⟩
      case round =>
        obtain ⟨i, q, vs, hi, rfl, rfl, D, HL⟩ := hrel
        clear HD0 HK0
        by_cases hlt : i < ls.length
        · obtain ⟨l, hl⟩ : ∃ l, ls[i]? = some l := ⟨_, List.getElem?_eq_getElem hlt⟩
          obtain ⟨bq, off, rfl, hcs⟩ := HX.out.sh (by omega)
          have hlen : l.length ≤ 900 := HLS.out l (List.mem_of_getElem? hl)
          have hlen' : (l.length : Int) ≤ 900 := by omega
          have hc0 := hcs i l hl
          have hcw : wr.cell? ⟨bq, off + i, none⟩ = some (.string ⟨l.toArray⟩) := by
            rw [D.bel.cell (cell_lt hc0)]; exact hc0
          have hlt' : (i : Int) < ls.length := by omega
          have hlk := lineKind_any l (by omega)
          have HD : Hid (DS w wr (.slice no nm.length ncap) (.slice po nm.length pcap) (.slice oo ps.length ocap) nm pl (ouF vs (ps.drop q))) := D
          have HLI : Hid (ls[i]? = some l) := hl
          have hq2 : (q : Int) ≤ 200 := by
            have h1 := ou_len vs (ps.drop q)
            have h2 : (ouF vs (ps.drop q)).length = ps.length := by
              have h3 := D.ro
              rcases h3.2 with ⟨e, h⟩ | ⟨_, _, _, e, _⟩
              · injection e with _ e2 _; omega
              · injection e with _ e2 _; omega
            have h4 := HL.out.vl
            omega
          clear D hcs hc0 hl
          go_wp2_with fail
          refine (hlk _).mono ?_
          rintro e w1 ⟨rfl, hw⟩
          rw [hw]
          clear hw hlk
          rcases lk_all l with hk | hk | hk
          · rw [hk]
            have ho : ptO i l = none := by unfold ptO; rw [if_pos hk]
            have HL2 : Hid (L2 org ls (i + 1) q vs ps g R) := ⟨HL.out.vl, by rw [pts_none HLI.out ho]; exact HL.out.ql, HL.out.k⟩
            clear HL hk ho
            go_wp2
            go_roundw
            case rel => exact ⟨i + 1, q, vs, by omega, by go_num, rfl, HD.out, HL2⟩
            case measure => simp [intOf]; omega
          · rw [hk]
            obtain ⟨p, ho⟩ : ∃ p, ptO i l = some p := by
              rcases HP.out.2 i l HLI.out with h | h
              · omega
              · exact h
            obtain ⟨e1, e2, e3⟩ := pts_some HP.out.1 HLI.out ho
            rw [← HL.out.ql] at e1 e2
            have hp0 : p.k = 0 := by
              unfold ptO at ho
              rw [if_neg (by omega), if_pos hk] at ho
              split at ho
              · injection ho with ho; subst ho; rfl
              · cases ho
            have HL2 : Hid (L2 org ls (i + 1) (q + 1) (vs ++ [wP p]) ps g R) := ⟨by simp [HL.out.vl], e2.symm, by
              rw [← HL.out.k, e1]; exact (finK_ok (fin_word hp0)).symm⟩
            have HD2 : Hid (DS w wr (.slice no nm.length ncap) (.slice po nm.length pcap) (.slice oo ps.length ocap) nm pl (ouF (vs ++ [wP p]) (ps.drop (q + 1)))) := by
              have h := HD.out
              rw [e1, ou_keep rfl] at h; exact h
            clear HL hk ho e1 e2 e3 hp0 HD
            go_wp2
            go_roundw
            case rel => exact ⟨i + 1, q + 1, vs ++ [wP p], by omega, by go_num, by go_num, HD2.out, HL2⟩
            case measure => simp [intOf]; omega
          · rw [hk]
            obtain ⟨p, ho⟩ : ∃ p, ptO i l = some p := by
              rcases HP.out.2 i l HLI.out with h | h
              · omega
              · exact h
            obtain ⟨e1, e2, e3⟩ := pts_some HP.out.1 HLI.out ho
            rw [← HL.out.ql] at e1 e2
            obtain ⟨k, f, hpa, hpp⟩ : ∃ k f, parseS (cutT l) = .ok k f ∧ p = ⟨i, 0, k, f, cutN l⟩ := by
              unfold ptO at ho
              rw [if_neg (by omega), if_neg (by omega)] at ho
              split at ho
              · rename_i k f h; injection ho with ho; exact ⟨k, f, h, ho.symm⟩
              · cases ho
            obtain ⟨k1, k2, okf, _⟩ := parse_ok _ _ _ hpa
            obtain ⟨m0, m1⟩ := ok_m okf k2
            have HPP : Hid (p = ⟨i, 0, k, f, cutN l⟩) := hpp
            have HWP : Hid (wP p = enc k f.s f.t f.d f.m) := by show _ = _; rw [hpp]; unfold wP; rw [if_neg (by show ¬ k = 0; omega)]
            have HE1 : Hid (ps.drop q = p :: ps.drop (q + 1)) := e1
            have HE2 : Hid ((ptsF (ls.take (i + 1)) 0).length = q + 1) := e2
            have hla := fun W => labelOf_any l (by omega) W
            have HTN := tx_name hpa
            clear hk ho e1 e2 e3 hpp hpa
            go_wp2_with fail
            refine (hla _).mono ?_
            rintro e w2 ⟨rfl, hb2⟩
            have HD2 : Hid (DS w w2 (.slice no nm.length ncap) (.slice po nm.length pcap) (.slice oo ps.length ocap) nm pl (ouF vs (p :: ps.drop (q + 1)))) := by
              have h := HD.out.stays hb2
              rw [HE1.out] at h; exact h
            clear hla hb2 HD hcw
            rcases HTN with ⟨h0, h1, hc, hne, hk29, hk34⟩ | ⟨hm, hc⟩
            · obtain ⟨q1, hq1⟩ : ∃ q1 : Nat, labOf l = q1 := ⟨(labOf l).toNat, by omega⟩
              rw [hq1]
              have hq10 : (0 : Int) ≤ q1 := by omega
              have hq11 : (q1 : Int) ≤ l.length := by omega
              have hsl := run_from l q1 (by omega)
              have HCN : Hid (cutN l = l.drop q1) := by show _ = _; rw [hc, hq1]; rfl
              have HNE : Hid (cutN l ≠ []) := hne
              have hnle : (l.drop q1).length ≤ 900 := by simp; omega
              generalize l.drop q1 = nx at *
              clear h0 h1 hc hne hq1
              have hq3 : (q : Int) + 1 ≤ 201 := by omega
              cases hg : g nx with
              | none =>
                have HNI : Hid (nx ∉ nm) := fun h => by
                  have := (HG.out.1.isSome nx).2 h
                  rw [hg] at this; cases this
                have HF : Hid (R = .error ((i : Int), 5)) := by
                  show R = _
                  rw [← HL.out.k, HE1.out]
                  have h := finK_err (org := org) (g := g) (p := p) (ps := ps.drop (q + 1)) (n := q) (vs := vs) (k := 5) (fin_none (by rw [HPP.out]; show ¬ k = 0; omega) (by rw [HPP.out]; exact HNE.out) (by rw [HPP.out]; show g (cutN l) = none; rw [HCN.out]; exact hg))
                  rw [h, HPP.out]
                clear hg HL HE1 HE2 HWP okf m0 m1
                go_wp2_with fail
                go_loopw [26, 27] (fun y z wq => ∃ k' n : Nat, k' ≤ nm.length ∧ z = .int .i64 k' ∧ y = .int .i64 (-1) ∧ wq = w2.drewN n) (fun _ z _ => nm.length - (intOf z).toNat)
                case atStart => exact ⟨0, 0, Nat.zero_le _, rfl, rfl, rfl⟩
                case round =>
                  obtain ⟨k', n, hkn, rfl, rfl, rfl⟩ := hrel
                  by_cases hk2 : k' < nm.length
                  · obtain ⟨t, ht⟩ : ∃ t, nm[k']? = some t := ⟨_, List.getElem?_eq_getElem hk2⟩
                    obtain ⟨qn, rfl⟩ := HNO.out (by omega)
                    have hcq := HD2.out.rn.cells (g := qn) rfl k' (strV t) (by rw [List.getElem?_map, ht]; rfl)
                    rw [add_lit] at hcq
                    unfold strV at hcq
                    have hk2' : (k' : Int) < nm.length := by omega
                    have hb : (t == nx) = false := by
                      have : t ≠ nx := fun e => HNI.out (e ▸ List.mem_of_getElem? ht)
                      simpa using this
                    clear ht
                    go_wp2_with fail
                    go_quiet (fail)
                    go_wp2
                    go_roundw
                    case rel => exact ⟨k' + 1, n + nq, by omega, by go_num, rfl, by simp⟩
                    case measure => simp [intOf]; omega
                  · have HD3 := HD2.out.stays (w' := w2.drewN n) ⟨rfl, rfl, rfl, Nat.le_refl _, fun _ _ => rfl⟩
                    have f0 := HD3.f0
                    have f1 := HD3.f1
                    have z0 := HD3.ff 0
                    have z1 := HD3.ff 1
                    obtain ⟨t0, t1, tb⟩ := HD3.told 6 (i : Int)
                    clear HD3
                    generalize w2.drewN n = w3 at *
                    go_wp2
                    refine bodyPost_ret (results_tc Tryz.results17 _ _ _ (A := ⟨w.heap.size, 0, none⟩) rfl (fault_ld t0 t1)) rfl ⟨?_, tb⟩
                    rw [HF.out]; rfl
              | some tg =>
                have HGT : Hid (g nx = some tg) := hg
                have htg : 0 ≤ tg ∧ tg ≤ 200 := by have := HG.out.2.2 nx tg hg; omega
                have hpl0 : 0 ≤ plc org tg ∧ plc org tg < 4294967296 := by unfold plc; omega
                have HIN : Hid (nx ∈ nm) := (HG.out.1.isSome nx).1 (by rw [hg]; rfl)
                clear hg
                go_wp2_with fail
                go_loopw [26, 27] (fun y z wq => ∃ (k' n : Nat) (y0 : Int), k' ≤ nm.length ∧ z = .int .i64 k' ∧ y = .int .i64 y0 ∧ wq = w2.drewN n ∧ Hid ((nx ∈ nm.take k' ∧ y0 = plc org tg) ∨ (nx ∉ nm.take k' ∧ y0 = -1))) (fun _ z _ => nm.length - (intOf z).toNat)
                case atStart => exact ⟨0, 0, -1, Nat.zero_le _, rfl, rfl, rfl, Or.inr ⟨by simp, rfl⟩⟩
                case round =>
                  obtain ⟨k', n, y0, hkn, rfl, rfl, rfl, HY⟩ := hrel
                  by_cases hk2 : k' < nm.length
                  · obtain ⟨t, ht⟩ : ∃ t, nm[k']? = some t := ⟨_, List.getElem?_eq_getElem hk2⟩
                    obtain ⟨qn, rfl⟩ := HNO.out (by omega)
                    obtain ⟨qp, rfl⟩ := HPO.out (by omega)
                    have hcq := HD2.out.rn.cells (g := qn) rfl k' (strV t) (by rw [List.getElem?_map, ht]; rfl)
                    rw [add_lit] at hcq
                    unfold strV at hcq
                    have hk2' : (k' : Int) < nm.length := by omega
                    have HTK : Hid (nm.take (k' + 1) = nm.take k' ++ [t]) := by show _ = _; rw [List.take_add_one, ht]; rfl
                    obtain ⟨tn, hgt, hpl⟩ := HG.out.1.at' k' t ht
                    by_cases he : t = nx
                    · have hb : (t == nx) = true := by simpa using he
                      have hte : tn = tg := by rw [he, HGT.out] at hgt; injection hgt with hgt; exact hgt.symm
                      have hcp := HD2.out.rp.cells (g := qp) rfl k' (u32V (plc org tg)) (by rw [List.getElem?_map, hpl, hte]; rfl)
                      rw [add_lit] at hcp
                      unfold u32V at hcp
                      have HY2 : Hid (nx ∈ nm.take (k' + 1)) := by show _ ∈ _; rw [HTK.out, he]; simp
                      clear ht he hte hgt hpl HY
                      go_wp2_with fail
                      go_quiet (fail)
                      go_wp2
                      go_roundw
                      case rel => exact ⟨k' + 1, n + nq, plc org tg, by omega, by go_num, rfl, by simp, Or.inl ⟨HY2.out, rfl⟩⟩
                      case measure => simp [intOf]; omega
                    · have hb : (t == nx) = false := by simpa using he
                      have HY2 : Hid ((nx ∈ nm.take (k' + 1) ∧ y0 = plc org tg) ∨ (nx ∉ nm.take (k' + 1) ∧ y0 = -1)) := by
                        rcases HY.out with ⟨h1, h2⟩ | ⟨h1, h2⟩
                        · exact Or.inl ⟨by rw [HTK.out]; simp [h1], h2⟩
                        · exact Or.inr ⟨by rw [HTK.out]; simp; exact ⟨h1, fun e => he e.symm⟩, h2⟩
                      clear ht he hgt hpl HY
                      go_wp2_with fail
                      go_quiet (fail)
                      go_wp2
                      go_roundw
                      case rel => exact ⟨k' + 1, n + nq, y0, by omega, by go_num, rfl, by simp, HY2⟩
                      case measure => simp [intOf]; omega
                  · have hy : y0 = plc org tg := by
                      rcases HY.out with ⟨_, h2⟩ | ⟨h1, _⟩
                      · exact h2
                      · rw [List.take_of_length_le (by omega)] at h1; exact absurd HIN.out h1
                    subst hy
                    have HD3 : Hid (DS w (w2.drewN n) (.slice no nm.length ncap) (.slice po nm.length pcap) (.slice oo ps.length ocap) nm pl (ouF vs (p :: ps.drop (q + 1)))) := HD2.out.stays (w' := w2.drewN n) ⟨rfl, rfl, rfl, Nat.le_refl _, fun _ _ => rfl⟩
                    clear HD2 HY HIN
                    generalize w2.drewN n = w3 at *
                    have HVL : Hid (vs.length = q) := HL.out.vl
                    have hol : ps.length = (ouF vs (p :: ps.drop (q + 1))).length := by
                      rw [← HE1.out, ou_len, HVL.out]
                      have h1 := congrArg List.length HE1.out
                      simp at h1 ⊢ <;> omega
                    have hqp : q < ps.length := by have h := hol; rw [ou_len, HVL.out, List.length_cons] at h; omega
                    have hqp' : (q : Int) < ps.length := by omega
                    have HOL : Hid (ps.length = (ouF vs (p :: ps.drop (q + 1))).length) := hol
                    obtain ⟨qo, rfl⟩ := HOO.out (by omega)
                    have hco := HD3.out.ro.cells (g := qo) rfl q (u32V (enc k f.s f.t f.d f.m)) (by
                      have h1 := ou_at vs p (ps.drop (q + 1))
                      rw [HVL.out] at h1
                      rw [List.getElem?_map, h1, HWP.out]; rfl)
                    rw [add_lit] at hco
                    unfold u32V at hco
                    have hwo := fun W => word_any (org + 4 * ((q : Int) + 1)) (by omega) (by omega) W
                    have hdc := fun W => decodeOf_back k k2 k1 f.s f.t f.d f.m m0 okf.1 W
                    have hro := fun W => rowOf_in k (by omega) (by omega) W
                    have hfl := fl_len k k2
                    have his := fun W => isOf_any (flds k) 106 hfl W
                    rw [bj_j k k2 ⟨hk29, hk34⟩] at his
                    have hqq : (q : Int) + 1 - 1 = q := by omega
                    clear hol
                    go_wp2_with fail
                    refine (hwo _).mono ?_
                    rintro e w4 ⟨rfl, hw4⟩
                    rw [hw4]
                    clear hw4 hwo
                    have hbe : Num.lo (org + 4 * ((q : Int) + 1)) = plc org (q + 1) := rfl
                    rw [hbe]
                    have hbe0 : 0 ≤ plc org (q + 1) ∧ plc org (q + 1) < 4294967296 := by unfold plc; omega
                    generalize hgB : plc org ((q : Int) + 1) = be at *
                    have HBE : Hid (plc org ((q : Int) + 1) = be) := hgB
                    clear hgB hbe
                    generalize hgT : plc org tg = tp at *
                    have HTP : Hid (plc org tg = tp) := hgT
                    clear hgT
                    go_wp2_with fail
                    refine (hdc _).mono ?_
                    rintro e w5 ⟨rfl, hb5⟩
                    have HD5 : Hid (DS w w5 (.slice no nm.length ncap) (.slice po nm.length pcap) (.slice (some ⟨qo, 0, none⟩) ps.length ocap) nm pl (ouF vs (p :: ps.drop (q + 1)))) := HD3.out.stays hb5
                    clear hdc hb5 HD3 hco
                    go_wp2_with fail
                    refine (hro _).mono ?_
                    rintro e w6 ⟨rfl, hb6⟩
                    have hA : Below w5.heap.size w5 (w5.alloc (.cells #[.int .i64 k, .int .i64 f.s, .int .i64 f.t, .int .i64 f.d, .int .u32 f.m] 24)) := (Below.refl _ _).alloc (Nat.le_refl _) _
                    have HD6 : Hid (DS w w6 (.slice no nm.length ncap) (.slice po nm.length pcap) (.slice (some ⟨qo, 0, none⟩) ps.length ocap) nm pl (ouF vs (p :: ps.drop (q + 1)))) := (HD5.out.stays hA).stays hb6
                    have x0 : w6.cell? ⟨w5.heap.size, 0, none⟩ = some (.int .i64 k) := by rw [hb6.cell (by simp)]; simp
                    have x1 : w6.cell? ⟨w5.heap.size, 1, none⟩ = some (.int .i64 f.s) := by rw [hb6.cell (by simp)]; simp
                    have x2 : w6.cell? ⟨w5.heap.size, 2, none⟩ = some (.int .i64 f.t) := by rw [hb6.cell (by simp)]; simp
                    have x3 : w6.cell? ⟨w5.heap.size, 3, none⟩ = some (.int .i64 f.d) := by rw [hb6.cell (by simp)]; simp
                    have x4 : w6.cell? ⟨w5.heap.size, 4, none⟩ = some (.int .u32 f.m) := by rw [hb6.cell (by simp)]; simp
                    have xf : w6.frozen? ⟨w5.heap.size, 4, none⟩ = false := by rw [hb6.frozen (by simp)]; simp
                    have hxs : w5.heap.size < w6.heap.size := cell_lt x0
                    have HXB : Hid (w.heap.size + 1 ≤ w5.heap.size ∧ qo < w5.heap.size) := ⟨HD5.out.flt, (HD5.out.ro.lt qo rfl).2⟩
                    have HDM : Hid (∀ m' : Int, DS w (w6.setCell ⟨w5.heap.size, 4, none⟩ (.int .u32 m')) (.slice no nm.length ncap) (.slice po nm.length pcap) (.slice (some ⟨qo, 0, none⟩) ps.length ocap) nm pl (ouF vs (p :: ps.drop (q + 1)))) := fun m' => HD5.out.stays ((hA.trans (hb6.mono hA.size)).setCell (p := ⟨w5.heap.size, 4, none⟩) (Nat.le_refl _) _)
                    clear hro hb6 hA HD5
                    generalize w5.heap.size = xb at *
                    have hff := fieldFlds
                    go_wp2_with fail
                    refine (his _).mono ?_
                    rintro e w7 ⟨rfl, hw7⟩
                    rw [hw7]
                    clear hw7 his hff
                    have htop := top_br k k2 ⟨hk29, hk34⟩
                    by_cases hkj : k = 29 ∨ k = 30
                    · rw [decide_eq_true hkj]
                      rw [if_pos hkj] at htop
                      have ht1 : tp.tdiv 268435456 = tp / 268435456 := Int.tdiv_eq_ediv_of_nonneg hpl0.1
                      have ht2 : be.tdiv 268435456 = be / 268435456 := Int.tdiv_eq_ediv_of_nonneg hbe0.1
                      by_cases hf : tp / 268435456 = be / 268435456
                      · have hnf : (tp / 268435456 != be / 268435456) = false := by simpa using hf
                        obtain ⟨t4, ht4⟩ : ∃ t4, tp / 4 = t4 := ⟨_, rfl⟩
                        have htd : tp.tdiv 4 = t4 := by rw [Int.tdiv_eq_ediv_of_nonneg hpl0.1]; exact ht4
                        obtain ⟨m', hm'⟩ : ∃ m', t4 % 67108864 = m' := ⟨_, rfl⟩
                        have hw4 : wrap64 t4 = t4 := by unfold wrap64; omega
                        have htm : t4.tmod 67108864 = m' := by rw [Int.tmod_eq_emod_of_nonneg (by omega)]; exact hm'
                        have hm1 : 0 ≤ m' := by omega
                        have hm2 : m' ≤ 67108863 := by omega
                        have hok := ok_re okf.1 (m' := m') (by rw [htop]; exact hm2)
                        have HIM : Hid (immB org tg q k = m') := by
                          show _ = _
                          unfold immB; rw [if_pos hkj, HTP.out, ht4]; exact hm'
                        clear htop ht4 hm'
                        have hm2a : m' < 4294967296 := by omega
                        have hmm : m' % 4294967296 = m' := by omega
                        have hen : ∀ W : World, Calls Tryz.prog 9 #[.agg #[.int .i64 k, .int .i64 f.s, .int .i64 f.t, .int .i64 f.d, .int .u32 m']] W fun e w' => e = .returned (.tuple #[.int .u32 (enc k f.s f.t f.d m'), .int .i64 0]) ∧ Below W.heap.size W w' := fun W => encodeOf_ok k k2 k1 f.s f.t f.d m' hm1 hm2a hok W
                        have HL2 : Hid (L2 org ls (i + 1) (q + 1) (vs ++ [enc k f.s f.t f.d m']) ps g R) := ⟨by simp [HL.out.vl], HE2.out.symm, by
                          rw [← HL.out.k, HE1.out]
                          refine (finK_ok ?_).symm
                          have h := fin_to (org := org) (g := g) (n := q) (p := p) (tg := tg) (by rw [HPP.out]; show ¬ k = 0; omega) (by rw [HPP.out]; exact HNE.out) (by rw [HPP.out]; show g (cutN l) = _; rw [HCN.out]; exact HGT.out) (fun hk => by rw [HPP.out] at hk; rw [HTP.out, HBE.out]; exact hf) (by rw [HPP.out]; show okB (sh k) f.s f.t f.d (immB org tg q k) = true; rw [HIM.out]; exact hok)
                          rw [h, HPP.out]
                          show Except.ok (enc k f.s f.t f.d (immB org tg q k)) = _
                          rw [HIM.out]⟩
                        have HD7 : Hid (DS w (w6.setCell ⟨xb, 4, none⟩ (.int .u32 m')) (.slice no nm.length ncap) (.slice po nm.length pcap) (.slice (some ⟨qo, 0, none⟩) ps.length ocap) nm pl (ouF vs (p :: ps.drop (q + 1)))) := HDM.out m'
                        clear HL HE1 HE2 HDM HD6 HIM hok HTP HBE HGT HNE HCN HPP hf hkj
                        go_wp2_with fail
                        refine (hen _).mono ?_
                        rintro e w8 ⟨rfl, hb8⟩
                        have HD8 : Hid (DS w w8 (.slice no nm.length ncap) (.slice po nm.length pcap) (.slice (some ⟨qo, 0, none⟩) ps.length ocap) nm pl (ouF vs (p :: ps.drop (q + 1)))) := HD7.out.stays hb8
                        clear hb8 HD7 hen x0 x1 x2 x3 x4 xf
                        have hcq := HD8.out.ro.cells (g := qo) rfl q (u32V (enc k f.s f.t f.d f.m)) (by
                          have h1 := ou_at vs p (ps.drop (q + 1))
                          rw [HVL.out] at h1
                          rw [List.getElem?_map, h1, HWP.out]; rfl)
                        rw [add_lit] at hcq
                        unfold u32V at hcq
                        have hfq : w8.frozen? ⟨qo, q, none⟩ = false := by have h := HD8.out.ro; rw [← HOL.out] at h; exact h.frozenAt q
                        have HD9 : Hid (DS w (w8.setCell ⟨qo, q, none⟩ (.int .u32 (enc k f.s f.t f.d m'))) (.slice no nm.length ncap) (.slice po nm.length pcap) (.slice (some ⟨qo, 0, none⟩) ps.length ocap) nm pl (ouF (vs ++ [enc k f.s f.t f.d m']) (ps.drop (q + 1)))) := by
                          have h := HD8.out.setO HOL.out q (enc k f.s f.t f.d m')
                          have h2 := ou_set vs p (ps.drop (q + 1)) (enc k f.s f.t f.d m')
                          rw [HVL.out] at h2
                          rw [h2] at h; exact h
                        clear HD8 HVL HWP
                        generalize hgE : enc k f.s f.t f.d m' = em at *
                        go_wp2
                        go_roundw
                        case rel => exact ⟨i + 1, q + 1, vs ++ [em], by omega, by go_num, by go_num, HD9.out, HL2⟩
                        case measure => simp [intOf]; omega
                      · have hnf : (tp / 268435456 != be / 268435456) = true := by simpa using hf
                        have HF : Hid (R = .error ((i : Int), 9)) := by
                          show R = _
                          rw [← HL.out.k, HE1.out]
                          have h := finK_err (org := org) (g := g) (p := p) (ps := ps.drop (q + 1)) (n := q) (vs := vs) (k := 9) (fin_far (by rw [HPP.out]; show ¬ k = 0; omega) (by rw [HPP.out]; exact HNE.out) (tg := tg) (by rw [HPP.out]; show g (cutN l) = _; rw [HCN.out]; exact HGT.out) (by rw [HPP.out]; exact hkj) (by rw [HTP.out]; rw [HBE.out]; exact hf))
                          rw [h, HPP.out]
                        obtain ⟨t0, t1, tb⟩ := HD6.out.told 10 (i : Int)
                        have f0 := HD6.out.f0
                        have f1 := HD6.out.f1
                        have z0 := HD6.out.ff 0
                        have z1 := HD6.out.ff 1
                        clear HL HE1 HE2 HDM x0 x1 x2 x3 x4 xf hf
                        go_wp2
                        refine bodyPost_ret (results_tc Tryz.results17 _ _ _ (A := ⟨w.heap.size, 0, none⟩) rfl (fault_ld t0 t1)) rfl ⟨?_, tb⟩
                        rw [HF.out]; rfl
                    · rw [decide_eq_false hkj]
                      rw [if_neg hkj] at htop
                      obtain ⟨dd, hdd⟩ : ∃ dd, tg - ((q : Int) + 1) = dd := ⟨_, rfl⟩
                      have hd1 : -201 ≤ dd := by omega
                      have hd2 : dd ≤ 200 := by omega
                      have hsg : sg (Num.lo (tp - be)) = 4 * dd := by
                        rw [← hdd, ← HTP.out, ← HBE.out]; exact br_far org tg q htg.1 htg.2 (by omega) (by omega)
                      have hwo := fun W => word_any (tp - be) (by omega) (by omega) W
                      have hlb := lo_bd (tp - be)
                      have hsi : ∀ W : World, Calls Tryz.prog 51 #[.int .u32 (Num.lo (tp - be))] W fun e w' => e = .returned (.int .i64 (4 * dd)) ∧ w' = W := fun W => by
                        have h := signed_any (Num.lo (tp - be)) hlb.1 hlb.2 W
                        rw [hsg] at h; exact h
                      have htd : (4 * dd).tdiv 4 = dd := Int.mul_tdiv_cancel_left dd (by decide)
                      obtain ⟨m', hm'⟩ : ∃ m', dd % 65536 = m' := ⟨_, rfl⟩
                      have htm : (dd + 65536).tmod 65536 = m' := by rw [Int.tmod_eq_emod_of_nonneg (by omega)]; omega
                      have hm1 : 0 ≤ m' := by omega
                      have hm2 : m' ≤ 65535 := by omega
                      have hok := ok_re okf.1 (m' := m') (by rw [htop]; exact hm2)
                      have HIM : Hid (immB org tg q k = m') := by
                        show _ = _
                        unfold immB; rw [if_neg hkj, hdd]; exact hm'
                      clear htop hm' hsg hdd
                      have hm2a : m' < 4294967296 := by omega
                      have hmm : m' % 4294967296 = m' := by omega
                      have hen : ∀ W : World, Calls Tryz.prog 9 #[.agg #[.int .i64 k, .int .i64 f.s, .int .i64 f.t, .int .i64 f.d, .int .u32 m']] W fun e w' => e = .returned (.tuple #[.int .u32 (enc k f.s f.t f.d m'), .int .i64 0]) ∧ Below W.heap.size W w' := fun W => encodeOf_ok k k2 k1 f.s f.t f.d m' hm1 hm2a hok W
                      have HL2 : Hid (L2 org ls (i + 1) (q + 1) (vs ++ [enc k f.s f.t f.d m']) ps g R) := ⟨by simp [HL.out.vl], HE2.out.symm, by
                        rw [← HL.out.k, HE1.out]
                        refine (finK_ok ?_).symm
                        have h := fin_to (org := org) (g := g) (n := q) (p := p) (tg := tg) (by rw [HPP.out]; show ¬ k = 0; omega) (by rw [HPP.out]; exact HNE.out) (by rw [HPP.out]; show g (cutN l) = _; rw [HCN.out]; exact HGT.out) (fun hk => by rw [HPP.out] at hk; rw [HTP.out, HBE.out]; exact absurd hk hkj) (by rw [HPP.out]; show okB (sh k) f.s f.t f.d (immB org tg q k) = true; rw [HIM.out]; exact hok)
                        rw [h, HPP.out]
                        show Except.ok (enc k f.s f.t f.d (immB org tg q k)) = _
                        rw [HIM.out]⟩
                      have HD7 : Hid (DS w (w6.setCell ⟨xb, 4, none⟩ (.int .u32 m')) (.slice no nm.length ncap) (.slice po nm.length pcap) (.slice (some ⟨qo, 0, none⟩) ps.length ocap) nm pl (ouF vs (p :: ps.drop (q + 1)))) := HDM.out m'
                      clear HL HE1 HE2 HDM HD6 HIM hok HTP HBE HGT HNE HCN HPP hlb
                      go_wp2_with fail
                      refine (hwo _).mono ?_
                      rintro e w7 ⟨rfl, hw7⟩
                      rw [hw7]
                      clear hw7 hwo
                      go_wp2_with fail
                      refine (hsi _).mono ?_
                      rintro e w7 ⟨rfl, hw7⟩
                      rw [hw7]
                      clear hw7 hsi
                      go_wp2_with fail
                      refine (hen _).mono ?_
                      rintro e w8 ⟨rfl, hb8⟩
                      have HD8 : Hid (DS w w8 (.slice no nm.length ncap) (.slice po nm.length pcap) (.slice (some ⟨qo, 0, none⟩) ps.length ocap) nm pl (ouF vs (p :: ps.drop (q + 1)))) := HD7.out.stays hb8
                      clear hb8 HD7 hen x0 x1 x2 x3 x4 xf
                      have hcq := HD8.out.ro.cells (g := qo) rfl q (u32V (enc k f.s f.t f.d f.m)) (by
                        have h1 := ou_at vs p (ps.drop (q + 1))
                        rw [HVL.out] at h1
                        rw [List.getElem?_map, h1, HWP.out]; rfl)
                      rw [add_lit] at hcq
                      unfold u32V at hcq
                      have hfq : w8.frozen? ⟨qo, q, none⟩ = false := by have h := HD8.out.ro; rw [← HOL.out] at h; exact h.frozenAt q
                      have HD9 : Hid (DS w (w8.setCell ⟨qo, q, none⟩ (.int .u32 (enc k f.s f.t f.d m'))) (.slice no nm.length ncap) (.slice po nm.length pcap) (.slice (some ⟨qo, 0, none⟩) ps.length ocap) nm pl (ouF (vs ++ [enc k f.s f.t f.d m']) (ps.drop (q + 1)))) := by
                        have h := HD8.out.setO HOL.out q (enc k f.s f.t f.d m')
                        have h2 := ou_set vs p (ps.drop (q + 1)) (enc k f.s f.t f.d m')
                        rw [HVL.out] at h2
                        rw [h2] at h; exact h
                      clear HD8 HVL HWP
                      generalize hgE : enc k f.s f.t f.d m' = em at *
                      go_wp2
                      go_roundw
                      case rel => exact ⟨i + 1, q + 1, vs ++ [em], by omega, by go_num, by go_num, HD9.out, HL2⟩
                      case measure => simp [intOf]; omega
            · rw [hm]
              have HL2 : Hid (L2 org ls (i + 1) (q + 1) (vs ++ [wP p]) ps g R) := ⟨by simp [HL.out.vl], HE2.out.symm, by
                rw [← HL.out.k, HE1.out]
                refine (finK_ok (fin_bare ?_ ?_ ?_)).symm
                · rw [HPP.out]; show ¬ k = 0; omega
                · rw [HPP.out]; exact hc
                · rw [HPP.out]; exact okf.1⟩
              have HD3 : Hid (DS w w2 (.slice no nm.length ncap) (.slice po nm.length pcap) (.slice oo ps.length ocap) nm pl (ouF (vs ++ [wP p]) (ps.drop (q + 1)))) := by
                have h := HD2.out
                rw [ou_keep rfl] at h; exact h
              clear HL HD2 hm hc okf m0 m1 HE1 HE2 HWP HPP
              go_wp2
              go_roundw
              case rel => exact ⟨i + 1, q + 1, vs ++ [wP p], by omega, by go_num, by go_num, HD3.out, HL2⟩
              case measure => simp [intOf]; omega
        · have hie : i = ls.length := by omega
          subst hie
          have e1 : ps.drop q = [] := by
            rw [HL.out.ql, List.take_length, ← HP.out.1]; exact List.drop_length
          have HF : Hid (R = .ok vs) := by
            show R = _
            rw [← HL.out.k, e1, finK_nil]
          rw [e1] at D
          have hv : ouF vs [] = vs := by simp [ouF]
          rw [hv] at D
          have HO : Hid (DS w wr (.slice no nm.length ncap) (.slice po nm.length pcap) (.slice oo ps.length ocap) nm pl vs) := D
          have f0 := D.f0
          have f1 := D.f1
          have z0 := D.ff 0
          have z1 := D.ff 1
          clear D HL
          go_wp2_with fail
          refine (fine_any _).mono ?_
          rintro e w2 ⟨rfl, hb2⟩
          have HD2 := HO.out.stays hb2
          have f0 := HD2.f0
          have f1 := HD2.f1
          have z0 := HD2.ff 0
          have z1 := HD2.ff 1
          obtain ⟨t0, t1, tb⟩ := HD2.told 0 (-1)
          have t3 := HD2.told3 0 (-1)
          have HT3 : Hid _ := t3
          clear HO hb2 HD2 t3
          go_wp2
          refine bodyPost_ret (results_tc Tryz.results17 _ _ _ (A := ⟨w.heap.size, 0, none⟩) rfl (fault_ld t0 t1)) rfl ⟨?_, tb⟩
          rw [HF.out]
          exact ⟨_, rfl, HT3.out⟩
end Go.Proofs.YtccnliihdhnckaaGreatDoor
