/-
  Package plan: a maker in memory; first.
-/
import Derived.Test.YtidagpanknhaaaaDoorPl3
import Derived.Test.YtidagpanknhaaaaDoorOptReads
import Derived.Test.YtidagpanknhaaaaDoorRunPure
import Derived.Test.YtidagpanknhaaaaDoorPlPure
import Derived.Laws.Cover1
namespace Go.Proofs.YtidagpanknhaaaaDoor
open Go.RowKit Go.Maps
open Num
set_option linter.unusedVariables false
/-- a maker's 132 cells -/
def mkF (M : Mk) (vr : Value) (j : Nat) : Value :=
  if j = 0 then vr else if j < 65 then .int .i64 (M.rdy (j - 1) : Int) else if j < 129 then .int .i64 (M.ask (j - 65) : Int) else if j = 129 then .int .i64 (M.bI : Int) else if j = 130 then .int .i64 (M.bS : Int) else .int .i64 (M.bM : Int)
def MkC (W : World) (mb : Nat) (M : Mk) (vr : Value) : Prop := RowIs W mb 61 132 (mkF M vr)
theorem MkC.c0 {W : World} {mb : Nat} {M : Mk} {vr : Value} (C : MkC W mb M vr) : W.cell? ⟨mb, 0, none⟩ = some vr := RowIs.cell C (j := 0) (by omega)
theorem MkC.rd {W : World} {mb : Nat} {M : Mk} {vr : Value} (C : MkC W mb M vr) (r : Nat) (h : r < 64) : W.cell? ⟨mb, 1 + r, none⟩ = some (.int .i64 (M.rdy r : Int)) := by
  have := RowIs.cell C (j := 1 + r) (by omega)
  rw [this]; unfold mkF; rw [if_neg (by omega), if_pos (by omega), show 1 + r - 1 = r by omega]
theorem MkC.ak {W : World} {mb : Nat} {M : Mk} {vr : Value} (C : MkC W mb M vr) (r : Nat) (h : r < 64) : W.cell? ⟨mb, 65 + r, none⟩ = some (.int .i64 (M.ask r : Int)) := by
  have := RowIs.cell C (j := 65 + r) (by omega)
  rw [this]; unfold mkF; rw [if_neg (by omega), if_neg (by omega), if_pos (by omega), show 65 + r - 65 = r by omega]
theorem MkC.i {W : World} {mb : Nat} {M : Mk} {vr : Value} (C : MkC W mb M vr) : W.cell? ⟨mb, 129, none⟩ = some (.int .i64 (M.bI : Int)) := RowIs.cell C (j := 129) (by omega)
theorem MkC.s {W : World} {mb : Nat} {M : Mk} {vr : Value} (C : MkC W mb M vr) : W.cell? ⟨mb, 130, none⟩ = some (.int .i64 (M.bS : Int)) := RowIs.cell C (j := 130) (by omega)
theorem MkC.m {W : World} {mb : Nat} {M : Mk} {vr : Value} (C : MkC W mb M vr) : W.cell? ⟨mb, 131, none⟩ = some (.int .i64 (M.bM : Int)) := RowIs.cell C (j := 131) (by omega)
theorem MkC.stays {W W' : World} {mb : Nat} {M : Mk} {vr : Value} (C : MkC W mb M vr) (h : Below W.heap.size W W') : MkC W' mb M vr := RowIs.stays C h
theorem MkC.lt {W : World} {mb : Nat} {M : Mk} {vr : Value} (C : MkC W mb M vr) : mb < W.heap.size := RowIs.lt C
theorem rdX_bd {o : Opx} {many : Int} (h : opE o many = 0) : ∀ r ∈ rdX o, 0 ≤ r ∧ r < 64 := by
  obtain ⟨_, hb, _⟩ := opE_zero.1 h
  unfold bndB at hb
  simp only [Bool.and_eq_true] at hb
  obtain ⟨⟨⟨⟨hd, ha⟩, hb'⟩, _⟩, _⟩ := hb
  intro r hr
  unfold rdX at hr
  simp only [List.mem_append] at hr
  rcases hr with (hr | hr) | hr
  · split at hr
    · rename_i e; rw [e] at ha; simp at hr; subst hr; unfold alw at ha; simp at ha; exact ha
    · cases hr
  · split at hr
    · rename_i e; rw [e] at hb'; simp at hr; subst hr; unfold alw at hb'; simp at hb'; exact hb'
    · cases hr
  · split at hr
    · rename_i e
      have h2 : rD o.k = 2 := by unfold dvB at e; simp at e; unfold rD; rw [if_pos (.inl ⟨by omega, e.2⟩)]
      have := well_d h h2
      simp at hr; subst hr; omega
    · cases hr
theorem intsP {w : World} {base : Nat} {v : Value} {l : List Int} (h : w.ownsRow base 3 1 v l.length (l.map (Value.int .i64))) : ∃ ao cap, v = .slice ao l.length cap ∧ l.length ≤ cap ∧ (0 < l.length → ∃ g, ao = some ⟨g, 0, none⟩ ∧ base ≤ g ∧ ∀ (i : Nat) (x : Int), l[i]? = some x → w.cell? ⟨g, i, none⟩ = some (.int .i64 x)) := by
  obtain ⟨h1, h2⟩ := h
  rcases h2 with ⟨hv, hn⟩ | ⟨g, cap, cur, hv, hb, hg, hr⟩
  · refine ⟨none, 0, by rw [hv, hn], by omega, fun hp => by omega⟩
  · obtain ⟨r1, r2, r3, r4⟩ := hr
    refine ⟨_, cap, hv, r1, fun _ => ⟨g, rfl, hb, fun i x hx => ?_⟩⟩
    rw [cell_of_row _ _ _ _ _ _ hg]
    have hi : i < l.length := (List.getElem?_eq_some_iff.1 hx).1
    have : (cur.toList.take (l.length * 1))[i]? = some (.int .i64 x) := by rw [r4, List.getElem?_map, hx]; rfl
    rw [List.getElem?_take, if_pos (by omega)] at this
    rw [← Array.getElem?_toList]; exact this
theorem rdX_len (o : Opx) : (rdX o).length ≤ 3 := by rcases rd_ways o with ⟨_, _, _, h⟩ | ⟨_, _, _, h⟩ | ⟨_, _, _, h⟩ | ⟨_, _, _, h⟩ <;> rw [h] <;> simp
theorem frA_snoc (M : Mk) (l : List Int) (r : Int) (n : Nat) : frA M (l ++ [r]) n = max (frA M l n) (M.rdy r.toNat) := by simp [frA]
structure CkF (W : World) (mb : Nat) (r : Nat) (x y : Int) : Prop where
  a : W.cell? ⟨mb, 1 + r, none⟩ = some (.int .i64 x)
  b : W.cell? ⟨mb, 65 + r, none⟩ = some (.int .i64 y)
set_option maxRecDepth 100000 in
set_option maxHeartbeats 4000000 in
theorem first_any {w : World} {mb : Nat} {M : Mk} {ar : Option Addr} {cr : Nat} (C : MkC w mb M (.slice ar M.rows.length cr)) (H : MkOk M) (hlen : M.rows.length ≤ 100000) (o : Opx) {many : Int} (ho : opE o many = 0) :
    Calls Tryd.prog 37 #[.pointer (some ⟨mb, 0, none⟩), opV o] w fun e w' => e = .returned (.int .i64 (frR M o : Int)) ∧ Below w.heap.size w w' := by
  have B0 : Below w.heap.size w (w.alloc (.cells #[.string o.s, .int .i64 o.d, .int .i64 o.a, .int .i64 o.b, .int .u32 o.i, .int .i64 o.t] 42)) := (Below.refl _ _).alloc (Nat.le_refl _) _
  have bx := BoxP.new w o
  have hrd := fun W => reads_any o W
  have hwr := fun W => writes_any o W
  have HRB : Hid (∀ r ∈ rdX o, 0 ≤ r ∧ r < 64) := rdX_bd ho
  have hL3 := rdX_len o
  obtain ⟨wr0, wr1⟩ := well_wr ho
  have CC := C.stays B0
  obtain ⟨R, hR⟩ : ∃ R, frR M o = R := ⟨_, rfl⟩
  have HR : Hid (frR M o = R) := hR
  rw [hR]
  have HK : Hid (kn o.s = 23 ∨ kn o.s = 24 ∨ kn o.s = 25 ∨ kn o.s = 26 ∨ kn o.s = 27 ∨ kn o.s < 23) := by show _ ∨ _; have := kn_lt o.s; omega
  have HM : Hid (MkOk M) := H
  unfold opV at hrd hwr ⊢
  clear hR C H ho
  generalize hl : rdX o = L at *
  generalize hw : wrX o = x at *
  go_enter Tryd.func37, Tryd.ntmps37
  go_upto_region 1 with fail
  generalize w.alloc (.cells #[.string o.s, .int .i64 o.d, .int .i64 o.a, .int .i64 o.b, .int .u32 o.i, .int .i64 o.t] 42) = V at *
  have HV : Hid (Below w.heap.size w V) := B0
  have HC : Hid (MkC V mb M (.slice ar M.rows.length cr)) := CC
  have HX : Hid (BoxP V w.heap.size o) := bx
  have ci := CC.i
  have zi := CC.lt
  have zx := bx.lt
  have hbi : M.bI ≤ 100000 := by have := HM.out.bI; omega
  obtain ⟨c0, c1, c2, c3, c4, c5⟩ := bx
  clear B0 CC
  go_wp2_with fail
  refine (hrd _).mono ?_
  rintro e w2 ⟨v, rfl, hown, hb2⟩
  obtain ⟨ao, cp, rfl, hcp, hcl⟩ := intsP hown
  have HI : Hid (0 < L.length → ∃ g, ao = some ⟨g, 0, none⟩ ∧ ∀ (i : Nat) (x : Int), L[i]? = some x → w2.cell? ⟨g, i, none⟩ = some (.int .i64 x)) := fun h => let ⟨g, e, _, c⟩ := hcl h; ⟨g, e, c⟩
  have B2 : Hid (Below w.heap.size w w2) := HV.out.trans (hb2.mono HV.out.size)
  have C2 : Hid (MkC w2 mb M (.slice ar M.rows.length cr)) := HC.out.stays hb2
  have X2 := HX.out.stays hb2
  have zi2 : mb < w2.heap.size := C2.out.lt
  have zx2 := X2.lt
  obtain ⟨c0, c1, c2, c3, c4, c5⟩ := X2
  clear hrd hown hcl hb2 HV HC HX ci zi zx
  have hf0 : frA M L M.bI ≤ 100000 := by have := frA_le HM.out L M.bI HM.out.bI; omega
  have HFL : Hid (∀ q, frA M (L.take q) M.bI ≤ 100000) := fun q => by have := frA_le HM.out (L.take q) M.bI HM.out.bI; omega
  go_wp2
  go_loop [5, 16] (fun n i => ∃ q : Nat, q ≤ L.length ∧ i = .int .i64 q ∧ n = .int .i64 (frA M (L.take q) M.bI : Int)) (fun _ i => L.length - (intOf i).toNat)
  case atStart => exact ⟨0, Nat.zero_le _, rfl, rfl⟩
  case round =>
    obtain ⟨q, hq, rfl, rfl⟩ := hrel
    have hq1 := HFL.out q
    by_cases hlt : q < L.length
    · obtain ⟨r, hr⟩ : ∃ r, L[q]? = some r := ⟨_, List.getElem?_eq_getElem hlt⟩
      obtain ⟨g, rfl, hgc⟩ := HI.out (by omega)
      have hyc := hgc q r hr
      have hgz := World.block_lt_of_cell? _ _ hyc
      have hlt' : (q : Int) < L.length := by omega
      obtain ⟨r0, r1⟩ := HRB.out r (List.mem_of_getElem? hr)
      have hrc := C2.out.rd r.toNat (by omega)
      have HS : Hid (frA M (L.take (q + 1)) M.bI = max (frA M (L.take q) M.bI) (M.rdy r.toNat)) := by show _ = _; rw [take_snoc' hr, frA_snoc]
      have hrl : M.rdy r.toNat ≤ 100000 := by have := HM.out.rdy r.toNat; omega
      clear hr hgc HFL HI
      generalize frA M (L.take q) M.bI = n at *
      generalize M.rdy r.toNat = n2 at *
      go_wp2
      go_round
      case rel => exact ⟨q + 1, by omega, by go_num, by rw [HS.out]; go_num⟩
      case measure => simp [intOf]; omega
    · obtain rfl : q = L.length := by omega
      rw [List.take_length]
      have HFA : Hid (R = frK M o (frW M o (frA M L M.bI))) := by show _ = _; rw [← HR.out]; unfold frR; rw [hl]
      have HFW : Hid (frW M o (frA M L M.bI) = if x ≠ 0 then max (max (frA M L M.bI) (M.rdy x.toNat)) (M.ask x.toNat) else frA M L M.bI) := by show _ = _; unfold frW; rw [hw]
      have e1 : M.rdy x.toNat ≤ 100000 := by have := HM.out.rdy x.toNat; omega
      have e2 : M.ask x.toNat ≤ 100000 := by have := HM.out.ask x.toNat; omega
      have e3 : M.bS ≤ 100000 := by have := HM.out.bS; omega
      have e4 : M.bM ≤ 100000 := by have := HM.out.bM; omega
      clear HI HFL HRB hq1 hq HR hl
      generalize frA M L M.bI = n at *
      go_wp2_with fail
      refine (hwr _).mono ?_
      rintro e w3 ⟨rfl, hb3⟩
      have B3 : Hid (Below w.heap.size w w3) := B2.out.trans (hb3.mono B2.out.size)
      have C3' : Hid (MkC w3 mb M (.slice ar M.rows.length cr)) := C2.out.stays hb3
      have X3 : Hid (BoxP w3 w.heap.size o) := (BoxP.mk c0 c1 c2 c3 c4 c5).stays hb3
      clear hwr hb3 c0 c1 c2 c3 c4 c5 B2 C2 zi2 zx2 hw
      by_cases hx : x = 0
      · have hxb : (x != 0) = false := by simp [hx]
        have HQ : Hid (R = frK M o n) := by show _ = _; rw [HFA.out, HFW.out, if_neg (by simp [hx])]
        have zi3 : mb < w3.heap.size := C3'.out.lt
        have zx3 := X3.out.lt
        have d0 := X3.out.c0
        have d1 := C3'.out.s
        have d2 := C3'.out.m
        have d3 := C3'.out.c0
        have hn0 : n ≤ 100000 := hf0
        clear HFA HFW hx C3' X3 HM
        rcases HK.out with h | h | h | h | h | h
        · have HZ : Hid (R = max n M.bS) := by show _ = _; rw [HQ.out]; unfold frK Opx.k; simp [h]
          have f23 : (o.s.toList == [108, 111, 97, 100]) = true := by rw [show (o.s.toList == [108, 111, 97, 100]) = _ from kn_eq o.s 23 (by omega) (by omega), h]; rfl
          have f24 : (o.s.toList == [115, 116, 111, 114, 101]) = false := by rw [show (o.s.toList == [115, 116, 111, 114, 101]) = _ from kn_eq o.s 24 (by omega) (by omega), h]; rfl
          have f25 : (o.s.toList == [105, 102]) = false := by rw [show (o.s.toList == [105, 102]) = _ from kn_eq o.s 25 (by omega) (by omega), h]; rfl
          have f26 : (o.s.toList == [111, 117, 116]) = false := by rw [show (o.s.toList == [111, 117, 116]) = _ from kn_eq o.s 26 (by omega) (by omega), h]; rfl
          have f27 : (o.s.toList == [111, 117, 116, 114]) = false := by rw [show (o.s.toList == [111, 117, 116, 114]) = _ from kn_eq o.s 27 (by omega) (by omega), h]; rfl
          clear h HQ HK
          go_wp2
          all_goals
            go_ret
            exact ⟨by rw [HZ.out]; first | rfl | (show Ending.returned (Value.int .i64 _) = _; congr 2; omega), B3.out⟩
        · have HZ : Hid (R = max n M.bM) := by show _ = _; rw [HQ.out]; unfold frK Opx.k; simp [h]
          have f23 : (o.s.toList == [108, 111, 97, 100]) = false := by rw [show (o.s.toList == [108, 111, 97, 100]) = _ from kn_eq o.s 23 (by omega) (by omega), h]; rfl
          have f24 : (o.s.toList == [115, 116, 111, 114, 101]) = true := by rw [show (o.s.toList == [115, 116, 111, 114, 101]) = _ from kn_eq o.s 24 (by omega) (by omega), h]; rfl
          have f25 : (o.s.toList == [105, 102]) = false := by rw [show (o.s.toList == [105, 102]) = _ from kn_eq o.s 25 (by omega) (by omega), h]; rfl
          have f26 : (o.s.toList == [111, 117, 116]) = false := by rw [show (o.s.toList == [111, 117, 116]) = _ from kn_eq o.s 26 (by omega) (by omega), h]; rfl
          have f27 : (o.s.toList == [111, 117, 116, 114]) = false := by rw [show (o.s.toList == [111, 117, 116, 114]) = _ from kn_eq o.s 27 (by omega) (by omega), h]; rfl
          clear h HQ HK
          go_wp2
          all_goals
            go_ret
            exact ⟨by rw [HZ.out]; first | rfl | (show Ending.returned (Value.int .i64 _) = _; congr 2; omega), B3.out⟩
        · have HZ : Hid (R = max n (M.rows.length - 1)) := by show _ = _; rw [HQ.out]; unfold frK Opx.k; simp [h]
          have f23 : (o.s.toList == [108, 111, 97, 100]) = false := by rw [show (o.s.toList == [108, 111, 97, 100]) = _ from kn_eq o.s 23 (by omega) (by omega), h]; rfl
          have f24 : (o.s.toList == [115, 116, 111, 114, 101]) = false := by rw [show (o.s.toList == [115, 116, 111, 114, 101]) = _ from kn_eq o.s 24 (by omega) (by omega), h]; rfl
          have f25 : (o.s.toList == [105, 102]) = true := by rw [show (o.s.toList == [105, 102]) = _ from kn_eq o.s 25 (by omega) (by omega), h]; rfl
          have f26 : (o.s.toList == [111, 117, 116]) = false := by rw [show (o.s.toList == [111, 117, 116]) = _ from kn_eq o.s 26 (by omega) (by omega), h]; rfl
          have f27 : (o.s.toList == [111, 117, 116, 114]) = false := by rw [show (o.s.toList == [111, 117, 116, 114]) = _ from kn_eq o.s 27 (by omega) (by omega), h]; rfl
          have HZ2 : Hid ((R : Int) = max (n : Int) ((M.rows.length : Int) - 1)) := by show _ = _; rw [HZ.out]; omega
          clear h HQ HK
          go_wp2
          all_goals
            go_ret
            exact ⟨by rw [HZ2.out]; first | rfl | (show Ending.returned (Value.int .i64 _) = _; congr 2; omega), B3.out⟩
        · have HZ : Hid (R = max n (M.rows.length - 1)) := by show _ = _; rw [HQ.out]; unfold frK Opx.k; simp [h]
          have f23 : (o.s.toList == [108, 111, 97, 100]) = false := by rw [show (o.s.toList == [108, 111, 97, 100]) = _ from kn_eq o.s 23 (by omega) (by omega), h]; rfl
          have f24 : (o.s.toList == [115, 116, 111, 114, 101]) = false := by rw [show (o.s.toList == [115, 116, 111, 114, 101]) = _ from kn_eq o.s 24 (by omega) (by omega), h]; rfl
          have f25 : (o.s.toList == [105, 102]) = false := by rw [show (o.s.toList == [105, 102]) = _ from kn_eq o.s 25 (by omega) (by omega), h]; rfl
          have f26 : (o.s.toList == [111, 117, 116]) = true := by rw [show (o.s.toList == [111, 117, 116]) = _ from kn_eq o.s 26 (by omega) (by omega), h]; rfl
          have f27 : (o.s.toList == [111, 117, 116, 114]) = false := by rw [show (o.s.toList == [111, 117, 116, 114]) = _ from kn_eq o.s 27 (by omega) (by omega), h]; rfl
          have HZ2 : Hid ((R : Int) = max (n : Int) ((M.rows.length : Int) - 1)) := by show _ = _; rw [HZ.out]; omega
          clear h HQ HK
          go_wp2
          all_goals
            go_ret
            exact ⟨by rw [HZ2.out]; first | rfl | (show Ending.returned (Value.int .i64 _) = _; congr 2; omega), B3.out⟩
        · have HZ : Hid (R = max n (M.rows.length - 1)) := by show _ = _; rw [HQ.out]; unfold frK Opx.k; simp [h]
          have f23 : (o.s.toList == [108, 111, 97, 100]) = false := by rw [show (o.s.toList == [108, 111, 97, 100]) = _ from kn_eq o.s 23 (by omega) (by omega), h]; rfl
          have f24 : (o.s.toList == [115, 116, 111, 114, 101]) = false := by rw [show (o.s.toList == [115, 116, 111, 114, 101]) = _ from kn_eq o.s 24 (by omega) (by omega), h]; rfl
          have f25 : (o.s.toList == [105, 102]) = false := by rw [show (o.s.toList == [105, 102]) = _ from kn_eq o.s 25 (by omega) (by omega), h]; rfl
          have f26 : (o.s.toList == [111, 117, 116]) = false := by rw [show (o.s.toList == [111, 117, 116]) = _ from kn_eq o.s 26 (by omega) (by omega), h]; rfl
          have f27 : (o.s.toList == [111, 117, 116, 114]) = true := by rw [show (o.s.toList == [111, 117, 116, 114]) = _ from kn_eq o.s 27 (by omega) (by omega), h]; rfl
          have HZ2 : Hid ((R : Int) = max (n : Int) ((M.rows.length : Int) - 1)) := by show _ = _; rw [HZ.out]; omega
          clear h HQ HK
          go_wp2
          all_goals
            go_ret
            exact ⟨by rw [HZ2.out]; first | rfl | (show Ending.returned (Value.int .i64 _) = _; congr 2; omega), B3.out⟩
        · have HZ : Hid (R = n) := by show _ = _; rw [HQ.out]; unfold frK Opx.k; rw [if_neg (by omega), if_neg (by omega), if_neg (by omega)]
          have f23 : (o.s.toList == [108, 111, 97, 100]) = false := by rw [show (o.s.toList == [108, 111, 97, 100]) = _ from kn_eq o.s 23 (by omega) (by omega)]; simp only [decide_eq_false_iff_not]; omega
          have f24 : (o.s.toList == [115, 116, 111, 114, 101]) = false := by rw [show (o.s.toList == [115, 116, 111, 114, 101]) = _ from kn_eq o.s 24 (by omega) (by omega)]; simp only [decide_eq_false_iff_not]; omega
          have f25 : (o.s.toList == [105, 102]) = false := by rw [show (o.s.toList == [105, 102]) = _ from kn_eq o.s 25 (by omega) (by omega)]; simp only [decide_eq_false_iff_not]; omega
          have f26 : (o.s.toList == [111, 117, 116]) = false := by rw [show (o.s.toList == [111, 117, 116]) = _ from kn_eq o.s 26 (by omega) (by omega)]; simp only [decide_eq_false_iff_not]; omega
          have f27 : (o.s.toList == [111, 117, 116, 114]) = false := by rw [show (o.s.toList == [111, 117, 116, 114]) = _ from kn_eq o.s 27 (by omega) (by omega)]; simp only [decide_eq_false_iff_not]; omega
          clear h HQ HK
          go_wp2
          all_goals
            go_ret
            exact ⟨by rw [HZ.out]; first | rfl | (show Ending.returned (Value.int .i64 _) = _; congr 2; omega), B3.out⟩
      · have hxb : (x != 0) = true := by simp [hx]
        have HQ : Hid (R = frK M o (max (max n (M.rdy x.toNat)) (M.ask x.toNat))) := by show _ = _; rw [HFA.out, HFW.out, if_pos hx]
        have ra := C3'.out.rd x.toNat (by omega)
        have rb := C3'.out.ak x.toNat (by omega)
        have zi3 : mb < w3.heap.size := C3'.out.lt
        have zx3 := X3.out.lt
        have d0 := X3.out.c0
        have d1 := C3'.out.s
        have d2 := C3'.out.m
        have d3 := C3'.out.c0
        have hn0 : n ≤ 100000 := hf0
        clear HFA HFW hx C3' X3 HM
        generalize M.rdy x.toNat = n2 at *
        generalize M.ask x.toNat = n3 at *
        obtain ⟨n4, hn4⟩ : ∃ n4 : Nat, n4 = max (max n n2) n3 := ⟨_, rfl⟩
        have hm3 : ∀ (ts : Array TypeId) (t : TypeId) (W : World), (Builtin.max_ ts t #[.int .i64 (n : Int), .int .i64 (n2 : Int), .int .i64 (n3 : Int)]).run Tryd.prog W = .ok (.int .i64 (n4 : Int)) W := fun ts t W => by
          rw [run_max_int3]
          congr 2
          split <;> split at * <;> omega
        have hn5 : n4 ≤ 100000 := by omega
        rw [← hn4] at HQ
        have HN4 : Hid (n4 = max (max n n2) n3) := hn4
        clear hn4
        go_wp2
        refine wp_region_phase 15 [(0, 0), (1, 0), (2, 0), (3, 0), (4, 0), (5, 0), (6, 1), (7, 0), (8, 0), (9, 0), (10, 0), (11, 0), (12, 1), (13, 0), (14, 0)] (fun W => CkF W mb x.toNat (n2 : Int) (n3 : Int)) (by kernel_rfl) (by kernel_rfl) (fun _ _ _ d _ h => by cases d <;> exact h) ⟨by simpa using ra, by simpa using rb⟩ ?_
        repeat (first | (refine wpPlanZ_free (by rfl) (by rfl) (fun W => by (go_simp; try with_reducible rfl)) (fun K hK => ?_); go_simp; refine hK _ ?_; clear hK K) | (refine wpPlanZ_quiet (by rfl) (by rfl) (fun W hW => by (obtain ⟨s0, s1⟩ := hW; go_simp; try with_reducible rfl)) (fun K hK => ?_); go_simp; refine hK _ ?_; clear hK K))
        refine wpPlanZ_nil ?_
        clear ra rb hm3
        rcases HK.out with h | h | h | h | h | h
        · have HZ : Hid (R = max n4 M.bS) := by show _ = _; rw [HQ.out]; unfold frK Opx.k; simp [h]
          have f23 : (o.s.toList == [108, 111, 97, 100]) = true := by rw [show (o.s.toList == [108, 111, 97, 100]) = _ from kn_eq o.s 23 (by omega) (by omega), h]; rfl
          have f24 : (o.s.toList == [115, 116, 111, 114, 101]) = false := by rw [show (o.s.toList == [115, 116, 111, 114, 101]) = _ from kn_eq o.s 24 (by omega) (by omega), h]; rfl
          have f25 : (o.s.toList == [105, 102]) = false := by rw [show (o.s.toList == [105, 102]) = _ from kn_eq o.s 25 (by omega) (by omega), h]; rfl
          have f26 : (o.s.toList == [111, 117, 116]) = false := by rw [show (o.s.toList == [111, 117, 116]) = _ from kn_eq o.s 26 (by omega) (by omega), h]; rfl
          have f27 : (o.s.toList == [111, 117, 116, 114]) = false := by rw [show (o.s.toList == [111, 117, 116, 114]) = _ from kn_eq o.s 27 (by omega) (by omega), h]; rfl
          clear h HQ HK
          go_wp2
          all_goals
            go_ret
            exact ⟨by rw [HZ.out]; first | rfl | (show Ending.returned (Value.int .i64 _) = _; congr 2; omega), B3.out.drew⟩
        · have HZ : Hid (R = max n4 M.bM) := by show _ = _; rw [HQ.out]; unfold frK Opx.k; simp [h]
          have f23 : (o.s.toList == [108, 111, 97, 100]) = false := by rw [show (o.s.toList == [108, 111, 97, 100]) = _ from kn_eq o.s 23 (by omega) (by omega), h]; rfl
          have f24 : (o.s.toList == [115, 116, 111, 114, 101]) = true := by rw [show (o.s.toList == [115, 116, 111, 114, 101]) = _ from kn_eq o.s 24 (by omega) (by omega), h]; rfl
          have f25 : (o.s.toList == [105, 102]) = false := by rw [show (o.s.toList == [105, 102]) = _ from kn_eq o.s 25 (by omega) (by omega), h]; rfl
          have f26 : (o.s.toList == [111, 117, 116]) = false := by rw [show (o.s.toList == [111, 117, 116]) = _ from kn_eq o.s 26 (by omega) (by omega), h]; rfl
          have f27 : (o.s.toList == [111, 117, 116, 114]) = false := by rw [show (o.s.toList == [111, 117, 116, 114]) = _ from kn_eq o.s 27 (by omega) (by omega), h]; rfl
          clear h HQ HK
          go_wp2
          all_goals
            go_ret
            exact ⟨by rw [HZ.out]; first | rfl | (show Ending.returned (Value.int .i64 _) = _; congr 2; omega), B3.out.drew⟩
        · have HZ : Hid (R = max n4 (M.rows.length - 1)) := by show _ = _; rw [HQ.out]; unfold frK Opx.k; simp [h]
          have f23 : (o.s.toList == [108, 111, 97, 100]) = false := by rw [show (o.s.toList == [108, 111, 97, 100]) = _ from kn_eq o.s 23 (by omega) (by omega), h]; rfl
          have f24 : (o.s.toList == [115, 116, 111, 114, 101]) = false := by rw [show (o.s.toList == [115, 116, 111, 114, 101]) = _ from kn_eq o.s 24 (by omega) (by omega), h]; rfl
          have f25 : (o.s.toList == [105, 102]) = true := by rw [show (o.s.toList == [105, 102]) = _ from kn_eq o.s 25 (by omega) (by omega), h]; rfl
          have f26 : (o.s.toList == [111, 117, 116]) = false := by rw [show (o.s.toList == [111, 117, 116]) = _ from kn_eq o.s 26 (by omega) (by omega), h]; rfl
          have f27 : (o.s.toList == [111, 117, 116, 114]) = false := by rw [show (o.s.toList == [111, 117, 116, 114]) = _ from kn_eq o.s 27 (by omega) (by omega), h]; rfl
          have HZ2 : Hid ((R : Int) = max (n4 : Int) ((M.rows.length : Int) - 1)) := by show _ = _; rw [HZ.out]; omega
          clear h HQ HK
          go_wp2
          all_goals
            go_ret
            exact ⟨by rw [HZ2.out]; first | rfl | (show Ending.returned (Value.int .i64 _) = _; congr 2; omega), B3.out.drew⟩
        · have HZ : Hid (R = max n4 (M.rows.length - 1)) := by show _ = _; rw [HQ.out]; unfold frK Opx.k; simp [h]
          have f23 : (o.s.toList == [108, 111, 97, 100]) = false := by rw [show (o.s.toList == [108, 111, 97, 100]) = _ from kn_eq o.s 23 (by omega) (by omega), h]; rfl
          have f24 : (o.s.toList == [115, 116, 111, 114, 101]) = false := by rw [show (o.s.toList == [115, 116, 111, 114, 101]) = _ from kn_eq o.s 24 (by omega) (by omega), h]; rfl
          have f25 : (o.s.toList == [105, 102]) = false := by rw [show (o.s.toList == [105, 102]) = _ from kn_eq o.s 25 (by omega) (by omega), h]; rfl
          have f26 : (o.s.toList == [111, 117, 116]) = true := by rw [show (o.s.toList == [111, 117, 116]) = _ from kn_eq o.s 26 (by omega) (by omega), h]; rfl
          have f27 : (o.s.toList == [111, 117, 116, 114]) = false := by rw [show (o.s.toList == [111, 117, 116, 114]) = _ from kn_eq o.s 27 (by omega) (by omega), h]; rfl
          have HZ2 : Hid ((R : Int) = max (n4 : Int) ((M.rows.length : Int) - 1)) := by show _ = _; rw [HZ.out]; omega
          clear h HQ HK
          go_wp2
          all_goals
            go_ret
            exact ⟨by rw [HZ2.out]; first | rfl | (show Ending.returned (Value.int .i64 _) = _; congr 2; omega), B3.out.drew⟩
        · have HZ : Hid (R = max n4 (M.rows.length - 1)) := by show _ = _; rw [HQ.out]; unfold frK Opx.k; simp [h]
          have f23 : (o.s.toList == [108, 111, 97, 100]) = false := by rw [show (o.s.toList == [108, 111, 97, 100]) = _ from kn_eq o.s 23 (by omega) (by omega), h]; rfl
          have f24 : (o.s.toList == [115, 116, 111, 114, 101]) = false := by rw [show (o.s.toList == [115, 116, 111, 114, 101]) = _ from kn_eq o.s 24 (by omega) (by omega), h]; rfl
          have f25 : (o.s.toList == [105, 102]) = false := by rw [show (o.s.toList == [105, 102]) = _ from kn_eq o.s 25 (by omega) (by omega), h]; rfl
          have f26 : (o.s.toList == [111, 117, 116]) = false := by rw [show (o.s.toList == [111, 117, 116]) = _ from kn_eq o.s 26 (by omega) (by omega), h]; rfl
          have f27 : (o.s.toList == [111, 117, 116, 114]) = true := by rw [show (o.s.toList == [111, 117, 116, 114]) = _ from kn_eq o.s 27 (by omega) (by omega), h]; rfl
          have HZ2 : Hid ((R : Int) = max (n4 : Int) ((M.rows.length : Int) - 1)) := by show _ = _; rw [HZ.out]; omega
          clear h HQ HK
          go_wp2
          all_goals
            go_ret
            exact ⟨by rw [HZ2.out]; first | rfl | (show Ending.returned (Value.int .i64 _) = _; congr 2; omega), B3.out.drew⟩
        · have HZ : Hid (R = n4) := by show _ = _; rw [HQ.out]; unfold frK Opx.k; rw [if_neg (by omega), if_neg (by omega), if_neg (by omega)]
          have f23 : (o.s.toList == [108, 111, 97, 100]) = false := by rw [show (o.s.toList == [108, 111, 97, 100]) = _ from kn_eq o.s 23 (by omega) (by omega)]; simp only [decide_eq_false_iff_not]; omega
          have f24 : (o.s.toList == [115, 116, 111, 114, 101]) = false := by rw [show (o.s.toList == [115, 116, 111, 114, 101]) = _ from kn_eq o.s 24 (by omega) (by omega)]; simp only [decide_eq_false_iff_not]; omega
          have f25 : (o.s.toList == [105, 102]) = false := by rw [show (o.s.toList == [105, 102]) = _ from kn_eq o.s 25 (by omega) (by omega)]; simp only [decide_eq_false_iff_not]; omega
          have f26 : (o.s.toList == [111, 117, 116]) = false := by rw [show (o.s.toList == [111, 117, 116]) = _ from kn_eq o.s 26 (by omega) (by omega)]; simp only [decide_eq_false_iff_not]; omega
          have f27 : (o.s.toList == [111, 117, 116, 114]) = false := by rw [show (o.s.toList == [111, 117, 116, 114]) = _ from kn_eq o.s 27 (by omega) (by omega)]; simp only [decide_eq_false_iff_not]; omega
          clear h HQ HK
          go_wp2
          all_goals
            go_ret
            exact ⟨by rw [HZ.out]; first | rfl | (show Ending.returned (Value.int .i64 _) = _; congr 2; omega), B3.out.drew⟩
end Go.Proofs.YtidagpanknhaaaaDoor
