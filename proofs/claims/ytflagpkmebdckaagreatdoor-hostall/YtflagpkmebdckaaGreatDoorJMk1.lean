/-
  Package plan: a maker in memory; first.
-/
import Derived.Laws.Cover1
import Derived.Test.YtflagpkmebdckaaGreatDoorKOptFns
import Derived.Test.YtflagpkmebdckaaGreatDoorKPlPure
import Derived.Test.YtflagpkmebdckaaGreatDoorJPl1
namespace Go.Proofs.YtflagpkmebdckaaGreatDoor
open Go.RowKit Go.Maps
open Num
set_option linter.unusedVariables false
/-- a maker's 132 cells -/
def mkF (M : Mk) (vr : Value) (j : Nat) : Value :=
  if j = 0 then vr else if j < 65 then .int .i64 (M.rdy (j - 1) : Int) else if j < 129 then .int .i64 (M.ask (j - 65) : Int) else if j = 129 then .int .i64 (M.bI : Int) else if j = 130 then .int .i64 (M.bS : Int) else .int .i64 (M.bM : Int)
def MkC (W : World) (mb : Nat) (M : Mk) (vr : Value) : Prop := RowIs W mb 151 132 (mkF M vr)
theorem MkC.c0 {W : World} {mb : Nat} {M : Mk} {vr : Value} (C : MkC W mb M vr) : W.cell? ⟨mb, 0, none⟩ = some vr := RowIs.cell C (j := 0) (by omega)
theorem MkC.rd {W : World} {mb : Nat} {M : Mk} {vr : Value} (C : MkC W mb M vr) (r : Nat) (h : r < 64) : W.cell? ⟨mb, 1 + r, none⟩ = some (.int .i64 (M.rdy r : Int)) := by
  have := RowIs.cell C (j := 1 + r) (by omega)
  rw [this]; unfold mkF; rw [if_neg (by omega), if_pos (by omega), show 1 + r - 1 = r by omega]
theorem MkC.ak {W : World} {mb : Nat} {M : Mk} {vr : Value} (C : MkC W mb M vr) (r : Nat) (h : r < 64) : W.cell? ⟨mb, 65 + r, none⟩ = some (.int .i64 (M.ask r : Int)) := by
  have := RowIs.cell C (j := 65 + r) (by omega)
  rw [this]; unfold mkF; rw [if_neg (by omega), if_neg (by omega), if_pos (by omega), show 65 + r - 65 = r by omega]
theorem MkC.i {W : World} {mb : Nat} {M : Mk} {vr : Value} (C : MkC W mb M vr) : W.cell? ⟨mb, 129, none⟩ = some (.int .i64 (M.bI : Int)) := RowIs.cell C (j := 129) (by omega)
theorem MkC.s {W : World} {mb : Nat} {M : Mk} {vr : Value} (C : MkC W mb M vr) : W.cell? ⟨mb, 130, none⟩ = some (.int .i64 (M.bS : Int)) := RowIs.cell C (j := 130) (by omega)
theorem MkC.m {W : World} {mb : Nat} {M : Mk} {vr : Value} (C : MkC W mb M vr) : W.cell? ⟨mb, 131, none⟩ = some (.int .i64 (M.bM : Int)) := RowIs.cell C (j := 131) (by omega)
theorem MkC.stays {W W' : World} {mb : Nat} {M : Mk} {vr : Value} (C : MkC W mb M vr) (h : Below W.heap.size W W') : MkC W' mb M vr := RowIs.stays C h
theorem MkC.lt {W : World} {mb : Nat} {M : Mk} {vr : Value} (C : MkC W mb M vr) : mb < W.heap.size := RowIs.lt C
theorem rdX_bd {o : Opx} {many : Int} (h : opE o many = 0) : ∀ r ∈ rdX o, 0 ≤ r ∧ r < 64 := by
  obtain ⟨_, hb, _⟩ := opE_zero.1 h
  unfold bndB at hb
  simp only [Bool.and_eq_true] at hb
  obtain ⟨⟨⟨⟨hd, ha⟩, hb'⟩, _⟩, _⟩ := hb
  intro r hr
  unfold rdX at hr
  simp only [List.mem_append] at hr
  rcases hr with (hr | hr) | hr
  · split at hr
    · rename_i e; rw [e] at ha; simp at hr; subst hr; unfold alw at ha; simp at ha; exact ha
    · cases hr
  · split at hr
    · rename_i e; rw [e] at hb'; simp at hr; subst hr; unfold alw at hb'; simp at hb'; exact hb'
    · cases hr
  · split at hr
    · rename_i e
      have h2 : rD o.k = 2 := by unfold dvB at e; simp at e; unfold rD; rw [if_pos (.inl ⟨by omega, e.2⟩)]
      have := well_d h h2
      simp at hr; subst hr; omega
    · cases hr
theorem intsP {w : World} {base : Nat} {v : Value} {l : List Int} (h : w.ownsRow base 3 1 v l.length (l.map (Value.int .i64))) : ∃ ao cap, v = .slice ao l.length cap ∧ l.length ≤ cap ∧ (0 < l.length → ∃ g, ao = some ⟨g, 0, none⟩ ∧ base ≤ g ∧ ∀ (i : Nat) (x : Int), l[i]? = some x → w.cell? ⟨g, i, none⟩ = some (.int .i64 x)) := by
  obtain ⟨h1, h2⟩ := h
  rcases h2 with ⟨hv, hn⟩ | ⟨g, cap, cur, hv, hb, hg, hr⟩
  · refine ⟨none, 0, by rw [hv, hn], by omega, fun hp => by omega⟩
  · obtain ⟨r1, r2, r3, r4⟩ := hr
    refine ⟨_, cap, hv, r1, fun _ => ⟨g, rfl, hb, fun i x hx => ?_⟩⟩
    rw [cell_of_row _ _ _ _ _ _ hg]
    have hi : i < l.length := (List.getElem?_eq_some_iff.1 hx).1
    have : (cur.toList.take (l.length * 1))[i]? = some (.int .i64 x) := by rw [r4, List.getElem?_map, hx]; rfl
    rw [List.getElem?_take, if_pos (by omega)] at this
    rw [← Array.getElem?_toList]; exact this
theorem rdX_len (o : Opx) : (rdX o).length ≤ 3 := by rcases rd_ways o with ⟨_, _, _, h⟩ | ⟨_, _, _, h⟩ | ⟨_, _, _, h⟩ | ⟨_, _, _, h⟩ <;> rw [h] <;> simp
theorem frA_snoc (M : Mk) (l : List Int) (r : Int) (n : Nat) : frA M (l ++ [r]) n = max (frA M l n) (M.rdy r.toNat) := by simp [frA]
structure CkF (W : World) (mb : Nat) (r : Nat) (x y : Int) : Prop where
  a : W.cell? ⟨mb, 1 + r, none⟩ = some (.int .i64 x)
  b : W.cell? ⟨mb, 65 + r, none⟩ = some (.int .i64 y)
set_option maxRecDepth 100000 in
set_option maxHeartbeats 4000000 in
theorem first_any {w : World} {mb : Nat} {M : Mk} {ar : Option Addr} {cr : Nat} (C : MkC w mb M (.slice ar M.rows.length cr)) (H : MkOk M) (hlen : M.rows.length ≤ 100000) (o : Opx) {many : Int} (ho : opE o many = 0) :
    Calls Tryz.prog 139 #[.pointer (some ⟨mb, 0, none⟩), opV o] w fun e w' => e = .returned (.int .i64 (frR M o : Int)) ∧ Below w.heap.size w w' := by
  have B0 : Below w.heap.size w (w.alloc (.cells #[.string o.s, .int .i64 o.d, .int .i64 o.a, .int .i64 o.b, .int .u32 o.i, .int .i64 o.t] 139)) := (Below.refl _ _).alloc (Nat.le_refl _) _
  have bx := BoxP.new w o
  have hrd := fun W => reads_any o W
  have hwr := fun W => writes_any o W
  have HRB : Hid (∀ r ∈ rdX o, 0 ≤ r ∧ r < 64) := rdX_bd ho
  have hL3 := rdX_len o
  obtain ⟨wr0, wr1⟩ := well_wr ho
  have CC := C.stays B0
  obtain ⟨R, hR⟩ : ∃ R, frR M o = R := ⟨_, rfl⟩
  have HR : Hid (frR M o = R) := hR
  rw [hR]
  have HK : Hid (kn o.s = 23 ∨ kn o.s = 24 ∨ kn o.s = 25 ∨ kn o.s = 26 ∨ kn o.s = 27 ∨ kn o.s < 23) := by show _ ∨ _; have := kn_lt o.s; omega
  have HM : Hid (MkOk M) := H
  unfold opV at hrd hwr ⊢
  clear hR C H ho
  generalize hl : rdX o = L at *
  generalize hw : wrX o = x at *
  go_enter Tryz.func139, Tryz.ntmps139
  go_upto_region 1 with fail
  generalize w.alloc (.cells #[.string o.s, .int .i64 o.d, .int .i64 o.a, .int .i64 o.b, .int .u32 o.i, .int .i64 o.t] 139) = V at *
  have HV : Hid (Below w.heap.size w V) := B0
  have HC : Hid (MkC V mb M (.slice ar M.rows.length cr)) := CC
  have HX : Hid (BoxP V w.heap.size o) := bx
  have ci := CC.i
  have zi := CC.lt
  have zx := bx.lt
  have hbi : M.bI ≤ 100000 := by have := HM.out.bI; omega
  obtain ⟨c0, c1, c2, c3, c4, c5⟩ := bx
  clear B0 CC
  go_wp2_with fail
  refine (hrd _).mono ?_
  rintro e w2 ⟨v, rfl, hown, hb2⟩
  obtain ⟨ao, cp, rfl, hcp, hcl⟩ := intsP hown
  have HI : Hid (0 < L.length → ∃ g, ao = some ⟨g, 0, none⟩ ∧ ∀ (i : Nat) (x : Int), L[i]? = some x → w2.cell? ⟨g, i, none⟩ = some (.int .i64 x)) := fun h => let ⟨g, e, _, c⟩ := hcl h; ⟨g, e, c⟩
  have B2 : Hid (Below w.heap.size w w2) := HV.out.trans (hb2.mono HV.out.size)
  have C2 : Hid (MkC w2 mb M (.slice ar M.rows.length cr)) := HC.out.stays hb2
  have X2 := HX.out.stays hb2
  have zi2 : mb < w2.heap.size := C2.out.lt
  have zx2 := X2.lt
  obtain ⟨c0, c1, c2, c3, c4, c5⟩ := X2
  clear hrd hown hcl hb2 HV HC HX ci zi zx
  have hf0 : frA M L M.bI ≤ 100000 := by have := frA_le HM.out L M.bI HM.out.bI; omega
  have HFL : Hid (∀ q, frA M (L.take q) M.bI ≤ 100000) := fun q => by have := frA_le HM.out (L.take q) M.bI HM.out.bI; omega
  go_wp2
  go_loop [5, 16] (fun n i => ∃ q : Nat, q ≤ L.length ∧ i = .int .i64 q ∧ n = .int .i64 (frA M (L.take q) M.bI : Int)) (fun _ i => L.length - (intOf i).toNat)
  case atStart => exact ⟨0, Nat.zero_le _, rfl, rfl⟩
  case round =>
    obtain ⟨q, hq, rfl, rfl⟩ := hrel
    have hq1 := HFL.out q
    by_cases hlt : q < L.length
    · obtain ⟨r, hr⟩ : ∃ r, L[q]? = some r := ⟨_, List.getElem?_eq_getElem hlt⟩
      obtain ⟨g, rfl, hgc⟩ := HI.out (by omega)
      have hyc := hgc q r hr
      have hgz := World.block_lt_of_cell? _ _ hyc
      have hlt' : (q : Int) < L.length := by omega
      obtain ⟨r0, r1⟩ := HRB.out r (List.mem_of_getElem? hr)
      have hrc := C2.out.rd r.toNat (by omega)
      have HS : Hid (frA M (L.take (q + 1)) M.bI = max (frA M (L.take q) M.bI) (M.rdy r.toNat)) := by show _ = _; rw [take_snoc' hr, frA_snoc]
      have hrl : M.rdy r.toNat ≤ 100000 := by have := HM.out.rdy r.toNat; omega
      clear hr hgc HFL HI
      generalize frA M (L.take q) M.bI = n at *
      generalize M.rdy r.toNat = n2 at *
      go_wp2
      go_round
      case rel => exact ⟨q + 1, by omega, by go_num, by rw [HS.out]; go_num⟩
      case measure => simp [intOf]; omega
    · obtain rfl : q = L.length := by omega
      rw [List.take_length]
      have HFA : Hid (R = frK M o (frW M o (frA M L M.bI))) := by show _ = _; rw [← HR.out]; unfold frR; rw [hl]
      have HFW : Hid (frW M o (frA M L M.bI) = if x ≠ 0 then max (max (frA M L M.bI) (M.rdy x.toNat)) (M.ask x.toNat) else frA M L M.bI) := by show _ = _; unfold frW; rw [hw]
      have e1 : M.rdy x.toNat ≤ 100000 := by have := HM.out.rdy x.toNat; omega
      have e2 : M.ask x.toNat ≤ 100000 := by have := HM.out.ask x.toNat; omega
      have e3 : M.bS ≤ 100000 := by have := HM.out.bS; omega
      have e4 : M.bM ≤ 100000 := by have := HM.out.bM; omega
      clear HI HFL HRB hq1 hq HR hl
      generalize frA M L M.bI = n at *
      go_wp2_with fail
      refine (hwr _).mono ?_
      rintro e w3 ⟨rfl, hb3⟩
      have B3 : Hid (Below w.heap.size w w3) := B2.out.trans (hb3.mono B2.out.size)
      have C3' : Hid (MkC w3 mb M (.slice ar M.rows.length cr)) := C2.out.stays hb3
      have X3 : Hid (BoxP w3 w.heap.size o) := (BoxP.mk c0 c1 c2 c3 c4 c5).stays hb3
      clear hwr hb3 c0 c1 c2 c3 c4 c5 B2 C2 zi2 zx2 hw
      by_cases hx : x = 0
      · have hxb : (x != 0) = false := by simp [hx]
        have HQ : Hid (R = frK M o n) := by show _ = _; rw [HFA.out, HFW.out, if_neg (by simp [hx])]
        have zi3 : mb < w3.heap.size := C3'.out.lt
        have zx3 := X3.out.lt
        have d0 := X3.out.c0
        have d1 := C3'.out.s
        have d2 := C3'.out.m
        have d3 := C3'.out.c0
        have hn0 : n ≤ 100000 := hf0
        clear HFA HFW hx C3' X3 HM
        rcases HK.out with h | h | h | h | h | h
        · have HZ : Hid (R = max n M.bS) := by show _ = _; rw [HQ.out]; unfold frK Opx.k; simp [h]
          have f23 : (o.s.toList == [108, 111, 97, 100]) = true := by rw [show (o.s.toList == [108, 111, 97, 100]) = _ from kn_eq o.s 23 (by omega) (by omega), h]; rfl
          have f24 : (o.s.toList == [115, 116, 111, 114, 101]) = false := by rw [show (o.s.toList == [115, 116, 111, 114, 101]) = _ from kn_eq o.s 24 (by omega) (by omega), h]; rfl
          have f25 : (o.s.toList == [105, 102]) = false := by rw [show (o.s.toList == [105, 102]) = _ from kn_eq o.s 25 (by omega) (by omega), h]; rfl
          have f26 : (o.s.toList == [111, 117, 116]) = false := by rw [show (o.s.toList == [111, 117, 116]) = _ from kn_eq o.s 26 (by omega) (by omega), h]; rfl
          have f27 : (o.s.toList == [111, 117, 116, 114]) = false := by rw [show (o.s.toList == [111, 117, 116, 114]) = _ from kn_eq o.s 27 (by omega) (by omega), h]; rfl
          clear h HQ HK
          go_wp2
          all_goals
            go_ret
            exact ⟨by rw [HZ.out]; first | rfl | (show Ending.returned (Value.int .i64 _) = _; congr 2; omega), B3.out⟩
        · have HZ : Hid (R = max n M.bM) := by show _ = _; rw [HQ.out]; unfold frK Opx.k; simp [h]
          have f23 : (o.s.toList == [108, 111, 97, 100]) = false := by rw [show (o.s.toList == [108, 111, 97, 100]) = _ from kn_eq o.s 23 (by omega) (by omega), h]; rfl
          have f24 : (o.s.toList == [115, 116, 111, 114, 101]) = true := by rw [show (o.s.toList == [115, 116, 111, 114, 101]) = _ from kn_eq o.s 24 (by omega) (by omega), h]; rfl
          have f25 : (o.s.toList == [105, 102]) = false := by rw [show (o.s.toList == [105, 102]) = _ from kn_eq o.s 25 (by omega) (by omega), h]; rfl
          have f26 : (o.s.toList == [111, 117, 116]) = false := by rw [show (o.s.toList == [111, 117, 116]) = _ from kn_eq o.s 26 (by omega) (by omega), h]; rfl
          have f27 : (o.s.toList == [111, 117, 116, 114]) = false := by rw [show (o.s.toList == [111, 117, 116, 114]) = _ from kn_eq o.s 27 (by omega) (by omega), h]; rfl
          clear h HQ HK
          go_wp2
          all_goals
            go_ret
            exact ⟨by rw [HZ.out]; first | rfl | (show Ending.returned (Value.int .i64 _) = _; congr 2; omega), B3.out⟩
        · have HZ : Hid (R = max n (M.rows.length - 1)) := by show _ = _; rw [HQ.out]; unfold frK Opx.k; simp [h]
          have f23 : (o.s.toList == [108, 111, 97, 100]) = false := by rw [show (o.s.toList == [108, 111, 97, 100]) = _ from kn_eq o.s 23 (by omega) (by omega), h]; rfl
          have f24 : (o.s.toList == [115, 116, 111, 114, 101]) = false := by rw [show (o.s.toList == [115, 116, 111, 114, 101]) = _ from kn_eq o.s 24 (by omega) (by omega), h]; rfl
          have f25 : (o.s.toList == [105, 102]) = true := by rw [show (o.s.toList == [105, 102]) = _ from kn_eq o.s 25 (by omega) (by omega), h]; rfl
          have f26 : (o.s.toList == [111, 117, 116]) = false := by rw [show (o.s.toList == [111, 117, 116]) = _ from kn_eq o.s 26 (by omega) (by omega), h]; rfl
          have f27 : (o.s.toList == [111, 117, 116, 114]) = false := by rw [show (o.s.toList == [111, 117, 116, 114]) = _ from kn_eq o.s 27 (by omega) (by omega), h]; rfl
          have HZ2 : Hid ((R : Int) = max (n : Int) ((M.rows.length : Int) - 1)) := by show _ = _; rw [HZ.out]; omega
          clear h HQ HK
          go_wp2
          all_goals
            go_ret
            exact ⟨by rw [HZ2.out]; first | rfl | (show Ending.returned (Value.int .i64 _) = _; congr 2; omega), B3.out⟩
        · have HZ : Hid (R = max n (M.rows.length - 1)) := by show _ = _; rw [HQ.out]; unfold frK Opx.k; simp [h]
          have f23 : (o.s.toList == [108, 111, 97, 100]) = false := by rw [show (o.s.toList == [108, 111, 97, 100]) = _ from kn_eq o.s 23 (by omega) (by omega), h]; rfl
          have f24 : (o.s.toList == [115, 116, 111, 114, 101]) = false := by rw [show (o.s.toList == [115, 116, 111, 114, 101]) = _ from kn_eq o.s 24 (by omega) (by omega), h]; rfl
          have f25 : (o.s.toList == [105, 102]) = false := by rw [show (o.s.toList == [105, 102]) = _ from kn_eq o.s 25 (by omega) (by omega), h]; rfl
          have f26 : (o.s.toList == [111, 117, 116]) = true := by rw [show (o.s.toList == [111, 117, 116]) = _ from kn_eq o.s 26 (by omega) (by omega), h]; rfl
          have f27 : (o.s.toList == [111, 117, 116, 114]) = false := by rw [show (o.s.toList == [111, 117, 116, 114]) = _ from kn_eq o.s 27 (by omega) (by omega), h]; rfl
          have HZ2 : Hid ((R : Int) = max (n : Int) ((M.rows.length : Int) - 1)) := by show _ = _; rw [HZ.out]; omega
          clear h HQ HK
          go_wp2
          all_goals
            go_ret
            exact ⟨by rw [HZ2.out]; first | rfl | (show Ending.returned (Value.int .i64 _) = _; congr 2; omega), B3.out⟩
        · have HZ : Hid (R = max n (M.rows.length - 1)) := by show _ = _; rw [HQ.out]; unfold frK Opx.k; simp [h]
          have f23 : (o.s.toList == [108, 111, 97, 100]) = false := by rw [show (o.s.toList == [108, 111, 97, 100]) = _ from kn_eq o.s 23 (by omega) (by omega), h]; rfl
          have f24 : (o.s.toList == [115, 116, 111, 114, 101]) = false := by rw [show (o.s.toList == [115, 116, 111, 114, 101]) = _ from kn_eq o.s 24 (by omega) (by omega), h]; rfl
          have f25 : (o.s.toList == [105, 102]) = false := by rw [show (o.s.toList == [105, 102]) = _ from kn_eq o.s 25 (by omega) (by omega), h]; rfl
          have f26 : (o.s.toList == [111, 117, 116]) = false := by rw [show (o.s.toList == [111, 117, 116]) = _ from kn_eq o.s 26 (by omega) (by omega), h]; rfl
          have f27 : (o.s.toList == [111, 117, 116, 114]) = true := by rw [show (o.s.toList == [111, 117, 116, 114]) = _ from kn_eq o.s 27 (by omega) (by omega), h]; rfl
          have HZ2 : Hid ((R : Int) = max (n : Int) ((M.rows.length : Int) - 1)) := by show _ = _; rw [HZ.out]; omega
          clear h HQ HK
          go_wp2
          all_goals
            go_ret
            exact ⟨by rw [HZ2.out]; first | rfl | (show Ending.returned (Value.int .i64 _) = _; congr 2; omega), B3.out⟩
        · have HZ : Hid (R = n) := by show _ = _; rw [HQ.out]; unfold frK Opx.k; rw [if_neg (by omega), if_neg (by omega), if_neg (by omega)]
          have f23 : (o.s.toList == [108, 111, 97, 100]) = false := by rw [show (o.s.toList == [108, 111, 97, 100]) = _ from kn_eq o.s 23 (by omega) (by omega)]; simp only [decide_eq_false_iff_not]; omega
          have f24 : (o.s.toList == [115, 116, 111, 114, 101]) = false := by rw [show (o.s.toList == [115, 116, 111, 114, 101]) = _ from kn_eq o.s 24 (by omega) (by omega)]; simp only [decide_eq_false_iff_not]; omega
          have f25 : (o.s.toList == [105, 102]) = false := by rw [show (o.s.toList == [105, 102]) = _ from kn_eq o.s 25 (by omega) (by omega)]; simp only [decide_eq_false_iff_not]; omega
          have f26 : (o.s.toList == [111, 117, 116]) = false := by rw [show (o.s.toList == [111, 117, 116]) = _ from kn_eq o.s 26 (by omega) (by omega)]; simp only [decide_eq_false_iff_not]; omega
          have f27 : (o.s.toList == [111, 117, 116, 114]) = false := by rw [show (o.s.toList == [111, 117, 116, 114]) = _ from kn_eq o.s 27 (by omega) (by omega)]; simp only [decide_eq_false_iff_not]; omega
          clear h HQ HK
          go_wp2
          all_goals
            go_ret
            exact ⟨by rw [HZ.out]; first | rfl | (show Ending.returned (Value.int .i64 _) = _; congr 2; omega), B3.out⟩
      · have hxb : (x != 0) = true := by simp [hx]
        have HQ : Hid (R = frK M o (max (max n (M.rdy x.toNat)) (M.ask x.toNat))) := by show _ = _; rw [HFA.out, HFW.out, if_pos hx]
        have ra := C3'.out.rd x.toNat (by omega)
        have rb := C3'.out.ak x.toNat (by omega)
        have zi3 : mb < w3.heap.size := C3'.out.lt
        have zx3 := X3.out.lt
        have d0 := X3.out.c0
        have d1 := C3'.out.s
        have d2 := C3'.out.m
        have d3 := C3'.out.c0
        have hn0 : n ≤ 100000 := hf0
        clear HFA HFW hx C3' X3 HM
        generalize M.rdy x.toNat = n2 at *
        generalize M.ask x.toNat = n3 at *
        obtain ⟨n4, hn4⟩ : ∃ n4 : Nat, n4 = max (max n n2) n3 := ⟨_, rfl⟩
        have hm3 : ∀ (ts : Array TypeId) (t : TypeId) (W : World), (Builtin.max_ ts t #[.int .i64 (n : Int), .int .i64 (n2 : Int), .int .i64 (n3 : Int)]).run Tryz.prog W = .ok (.int .i64 (n4 : Int)) W := fun ts t W => by
          rw [run_max_int3]
          congr 2
          split <;> split at * <;> omega
        have hn5 : n4 ≤ 100000 := by omega
        rw [← hn4] at HQ
        have HN4 : Hid (n4 = max (max n n2) n3) := hn4
        clear hn4
        go_wp2
        refine wp_region_phase 15 [(0, 0), (1, 0), (2, 0), (3, 0), (4, 0), (5, 0), (6, 1), (7, 0), (8, 0), (9, 0), (10, 0), (11, 0), (12, 1), (13, 0), (14, 0)] (fun W => CkF W mb x.toNat (n2 : Int) (n3 : Int)) (by kernel_rfl) (by kernel_rfl) (fun _ _ _ d _ h => by cases d <;> exact h) ⟨by simpa using ra, by simpa using rb⟩ ?_
        repeat (first | (refine wpPlanZ_free (by rfl) (by rfl) (fun W => by (go_simp; try with_reducible rfl)) (fun K hK => ?_); go_simp; refine hK _ ?_; clear hK K) | (refine wpPlanZ_quiet (by rfl) (by rfl) (fun W hW => by (obtain ⟨s0, s1⟩ := hW; go_simp; try with_reducible rfl)) (fun K hK => ?_); go_simp; refine hK _ ?_; clear hK K))
        refine wpPlanZ_nil ?_
        clear ra rb hm3
        rcases HK.out with h | h | h | h | h | h
        · have HZ : Hid (R = max n4 M.bS) := by show _ = _; rw [HQ.out]; unfold frK Opx.k; simp [h]
          have f23 : (o.s.toList == [108, 111, 97, 100]) = true := by rw [show (o.s.toList == [108, 111, 97, 100]) = _ from kn_eq o.s 23 (by omega) (by omega), h]; rfl
          have f24 : (o.s.toList == [115, 116, 111, 114, 101]) = false := by rw [show (o.s.toList == [115, 116, 111, 114, 101]) = _ from kn_eq o.s 24 (by omega) (by omega), h]; rfl
          have f25 : (o.s.toList == [105, 102]) = false := by rw [show (o.s.toList == [105, 102]) = _ from kn_eq o.s 25 (by omega) (by omega), h]; rfl
          have f26 : (o.s.toList == [111, 117, 116]) = false := by rw [show (o.s.toList == [111, 117, 116]) = _ from kn_eq o.s 26 (by omega) (by omega), h]; rfl
          have f27 : (o.s.toList == [111, 117, 116, 114]) = false := by rw [show (o.s.toList == [111, 117, 116, 114]) = _ from kn_eq o.s 27 (by omega) (by omega), h]; rfl
          clear h HQ HK
          go_wp2
          all_goals
            go_ret
            exact ⟨by rw [HZ.out]; first | rfl | (show Ending.returned (Value.int .i64 _) = _; congr 2; omega), B3.out.drew⟩
        · have HZ : Hid (R = max n4 M.bM) := by show _ = _; rw [HQ.out]; unfold frK Opx.k; simp [h]
          have f23 : (o.s.toList == [108, 111, 97, 100]) = false := by rw [show (o.s.toList == [108, 111, 97, 100]) = _ from kn_eq o.s 23 (by omega) (by omega), h]; rfl
          have f24 : (o.s.toList == [115, 116, 111, 114, 101]) = true := by rw [show (o.s.toList == [115, 116, 111, 114, 101]) = _ from kn_eq o.s 24 (by omega) (by omega), h]; rfl
          have f25 : (o.s.toList == [105, 102]) = false := by rw [show (o.s.toList == [105, 102]) = _ from kn_eq o.s 25 (by omega) (by omega), h]; rfl
          have f26 : (o.s.toList == [111, 117, 116]) = false := by rw [show (o.s.toList == [111, 117, 116]) = _ from kn_eq o.s 26 (by omega) (by omega), h]; rfl
          have f27 : (o.s.toList == [111, 117, 116, 114]) = false := by rw [show (o.s.toList == [111, 117, 116, 114]) = _ from kn_eq o.s 27 (by omega) (by omega), h]; rfl
          clear h HQ HK
          go_wp2
          all_goals
            go_ret
            exact ⟨by rw [HZ.out]; first | rfl | (show Ending.returned (Value.int .i64 _) = _; congr 2; omega), B3.out.drew⟩
        · have HZ : Hid (R = max n4 (M.rows.length - 1)) := by show _ = _; rw [HQ.out]; unfold frK Opx.k; simp [h]
          have f23 : (o.s.toList == [108, 111, 97, 100]) = false := by rw [show (o.s.toList == [108, 111, 97, 100]) = _ from kn_eq o.s 23 (by omega) (by omega), h]; rfl
          have f24 : (o.s.toList == [115, 116, 111, 114, 101]) = false := by rw [show (o.s.toList == [115, 116, 111, 114, 101]) = _ from kn_eq o.s 24 (by omega) (by omega), h]; rfl
          have f25 : (o.s.toList == [105, 102]) = true := by rw [show (o.s.toList == [105, 102]) = _ from kn_eq o.s 25 (by omega) (by omega), h]; rfl
          have f26 : (o.s.toList == [111, 117, 116]) = false := by rw [show (o.s.toList == [111, 117, 116]) = _ from kn_eq o.s 26 (by omega) (by omega), h]; rfl
          have f27 : (o.s.toList == [111, 117, 116, 114]) = false := by rw [show (o.s.toList == [111, 117, 116, 114]) = _ from kn_eq o.s 27 (by omega) (by omega), h]; rfl
          have HZ2 : Hid ((R : Int) = max (n4 : Int) ((M.rows.length : Int) - 1)) := by show _ = _; rw [HZ.out]; omega
          clear h HQ HK
          go_wp2
          all_goals
            go_ret
            exact ⟨by rw [HZ2.out]; first | rfl | (show Ending.returned (Value.int .i64 _) = _; congr 2; omega), B3.out.drew⟩
        · have HZ : Hid (R = max n4 (M.rows.length - 1)) := by show _ = _; rw [HQ.out]; unfold frK Opx.k; simp [h]
          have f23 : (o.s.toList == [108, 111, 97, 100]) = false := by rw [show (o.s.toList == [108, 111, 97, 100]) = _ from kn_eq o.s 23 (by omega) (by omega), h]; rfl
          have f24 : (o.s.toList == [115, 116, 111, 114, 101]) = false := by rw [show (o.s.toList == [115, 116, 111, 114, 101]) = _ from kn_eq o.s 24 (by omega) (by omega), h]; rfl
          have f25 : (o.s.toList == [105, 102]) = false := by rw [show (o.s.toList == [105, 102]) = _ from kn_eq o.s 25 (by omega) (by omega), h]; rfl
          have f26 : (o.s.toList == [111, 117, 116]) = true := by rw [show (o.s.toList == [111, 117, 116]) = _ from kn_eq o.s 26 (by omega) (by omega), h]; rfl
          have f27 : (o.s.toList == [111, 117, 116, 114]) = false := by rw [show (o.s.toList == [111, 117, 116, 114]) = _ from kn_eq o.s 27 (by omega) (by omega), h]; rfl
          have HZ2 : Hid ((R : Int) = max (n4 : Int) ((M.rows.length : Int) - 1)) := by show _ = _; rw [HZ.out]; omega
          clear h HQ HK
          go_wp2
          all_goals
            go_ret
            exact ⟨by rw [HZ2.out]; first | rfl | (show Ending.returned (Value.int .i64 _) = _; congr 2; omega), B3.out.drew⟩
        · have HZ : Hid (R = max n4 (M.rows.length - 1)) := by show _ = _; rw [HQ.out]; unfold frK Opx.k; simp [h]
          have f23 : (o.s.toList == [108, 111, 97, 100]) = false := by rw [show (o.s.toList == [108, 111, 97, 100]) = _ from kn_eq o.s 23 (by omega) (by omega), h]; rfl
          have f24 : (o.s.toList == [115, 116, 111, 114, 101]) = false := by rw [show (o.s.toList == [115, 116, 111, 114, 101]) = _ from kn_eq o.s 24 (by omega) (by omega), h]; rfl
          have f25 : (o.s.toList == [105, 102]) = false := by rw [show (o.s.toList == [105, 102]) = _ from kn_eq o.s 25 (by omega) (by omega), h]; rfl
          have f26 : (o.s.toList == [111, 117, 116]) = false := by rw [show (o.s.toList == [111, 117, 116]) = _ from kn_eq o.s 26 (by omega) (by omega), h]; rfl
          have f27 : (o.s.toList == [111, 117, 116, 114]) = true := by rw [show (o.s.toList == [111, 117, 116, 114]) = _ from kn_eq o.s 27 (by omega) (by omega), h]; rfl
          have HZ2 : Hid ((R : Int) = max (n4 : Int) ((M.rows.length : Int) - 1)) := by show _ = _; rw [HZ.out]; omega
          clear h HQ HK
          go_wp2
          all_goals
            go_ret
            exact ⟨by rw [HZ2.out]; first | rfl | (show Ending.returned (Value.int .i64 _) = _; congr 2; omega), B3.out.drew⟩
        · have HZ : Hid (R = n4) := by show _ = _; rw [HQ.out]; unfold frK Opx.k; rw [if_neg (by omega), if_neg (by omega), if_neg (by omega)]
          have f23 : (o.s.toList == [108, 111, 97, 100]) = false := by rw [show (o.s.toList == [108, 111, 97, 100]) = _ from kn_eq o.s 23 (by omega) (by omega)]; simp only [decide_eq_false_iff_not]; omega
          have f24 : (o.s.toList == [115, 116, 111, 114, 101]) = false := by rw [show (o.s.toList == [115, 116, 111, 114, 101]) = _ from kn_eq o.s 24 (by omega) (by omega)]; simp only [decide_eq_false_iff_not]; omega
          have f25 : (o.s.toList == [105, 102]) = false := by rw [show (o.s.toList == [105, 102]) = _ from kn_eq o.s 25 (by omega) (by omega)]; simp only [decide_eq_false_iff_not]; omega
          have f26 : (o.s.toList == [111, 117, 116]) = false := by rw [show (o.s.toList == [111, 117, 116]) = _ from kn_eq o.s 26 (by omega) (by omega)]; simp only [decide_eq_false_iff_not]; omega
          have f27 : (o.s.toList == [111, 117, 116, 114]) = false := by rw [show (o.s.toList == [111, 117, 116, 114]) = _ from kn_eq o.s 27 (by omega) (by omega)]; simp only [decide_eq_false_iff_not]; omega
          clear h HQ HK
          go_wp2
          all_goals
            go_ret
            exact ⟨by rw [HZ.out]; first | rfl | (show Ending.returned (Value.int .i64 _) = _; congr 2; omega), B3.out.drew⟩
end Go.Proofs.YtflagpkmebdckaaGreatDoor
/-
  Package plan: note.
-/
namespace Go.Proofs.YtflagpkmebdckaaGreatDoor
open Go.RowKit Go.Maps
open Num
set_option linter.unusedVariables false
theorem grown_setP {w : World} (a : Addr) (v : Value) : w.grownBy (w.setCell a v) (some a.block) := ⟨rfl, rfl, rfl, by simp [World.setCell], fun k hk hn => Below.heap_setCell _ _ _ _ (by intro e; exact hn (by rw [e]))⟩
theorem grown_transP {w w1 w2 : World} {g : Option Nat} (a : w.grownBy w1 g) (b : w1.grownBy w2 g) : w.grownBy w2 g :=
  ⟨b.os.trans a.os, b.tape.trans a.tape, b.output.trans a.output, Nat.le_trans a.size b.size, fun k hk hn => (b.block k (Nat.lt_of_lt_of_le hk a.size) hn).trans (a.block k hk hn)⟩
theorem grown_belowP {w w' : World} {g : Option Nat} (h : Below w.heap.size w w') : w.grownBy w' g := ⟨h.os, h.tape, h.output, h.size, fun k hk _ => h.block k hk⟩
theorem grown_drewP {w w' : World} {r : Option Nat} (h : w.grownBy w' r) : w.grownBy w'.drew r := ⟨h.os, h.tape, h.output, h.size, h.block⟩
theorem MkC.drew {W : World} {mb : Nat} {M : Mk} {vr : Value} (C : MkC W mb M vr) : MkC W.drew mb M vr := C
theorem BoxP.drew {W : World} {x : Nat} {o : Opx} (B : BoxP W x o) : BoxP W.drew x o := ⟨B.c0, B.c1, B.c2, B.c3, B.c4, B.c5⟩
theorem BoxP.put {W : World} {x mb i : Nat} {v : Value} {o : Opx} (B : BoxP W x o) (h : x ≠ mb) : BoxP (W.setCell ⟨mb, i, none⟩ v) x o := B.block (Below.heap_setCell _ _ _ _ (fun e => h e))
theorem mkF_r {M : Mk} {vr : Value} {j : Nat} (h1 : 1 ≤ j) (h2 : j < 65) : mkF M vr j = .int .i64 (M.rdy (j - 1) : Int) := by unfold mkF; rw [if_neg (by omega), if_pos h2]
theorem mkF_a {M : Mk} {vr : Value} {j : Nat} (h1 : 65 ≤ j) (h2 : j < 129) : mkF M vr j = .int .i64 (M.ask (j - 65) : Int) := by unfold mkF; rw [if_neg (by omega), if_neg (by omega), if_pos h2]
theorem MkC.fz {W : World} {mb : Nat} {M : Mk} {vr : Value} (C : MkC W mb M vr) (j : Nat) : W.frozen? ⟨mb, j, none⟩ = false := RowIs.fz C j
theorem MkC.putA {W : World} {mb : Nat} {M : Mk} {vr : Value} (C : MkC W mb M vr) (r : Nat) (hr : r < 64) (v : Nat) : MkC (W.setCell ⟨mb, 65 + r, none⟩ (.int .i64 (v : Int))) mb { M with ask := setN M.ask r v } vr := by
  refine RowIs.put C (65 + r) _ _ ?_ (fun j hj hne => ?_)
  · rw [mkF_a (by omega) (by omega)]; show Value.int .i64 ((if 65 + r - 65 = r then v else M.ask (65 + r - 65) : Nat) : Int) = _; rw [if_pos (by omega)]
  · have hc : j = 0 ∨ (1 ≤ j ∧ j < 65) ∨ (65 ≤ j ∧ j < 129) ∨ j = 129 ∨ j = 130 ∨ j = 131 := by omega
    rcases hc with hc | hc | hc | hc | hc | hc
    · subst hc; rfl
    · rw [mkF_r hc.1 hc.2, mkF_r hc.1 hc.2]
    · rw [mkF_a hc.1 hc.2, mkF_a hc.1 hc.2]; show Value.int .i64 ((if j - 65 = r then v else M.ask (j - 65) : Nat) : Int) = _; rw [if_neg (by omega)]
    · subst hc; first | rfl | omega
    · subst hc; first | rfl | omega
    · subst hc; first | rfl | omega
theorem MkC.putR {W : World} {mb : Nat} {M : Mk} {vr : Value} (C : MkC W mb M vr) (r : Nat) (hr : r < 64) (v : Nat) : MkC (W.setCell ⟨mb, 1 + r, none⟩ (.int .i64 (v : Int))) mb { M with rdy := setN M.rdy r v } vr := by
  refine RowIs.put C (1 + r) _ _ ?_ (fun j hj hne => ?_)
  · rw [mkF_r (by omega) (by omega)]; show Value.int .i64 ((if 1 + r - 1 = r then v else M.rdy (1 + r - 1) : Nat) : Int) = _; rw [if_pos (by omega)]
  · have hc : j = 0 ∨ (1 ≤ j ∧ j < 65) ∨ (65 ≤ j ∧ j < 129) ∨ j = 129 ∨ j = 130 ∨ j = 131 := by omega
    rcases hc with hc | hc | hc | hc | hc | hc
    · subst hc; rfl
    · rw [mkF_r hc.1 hc.2, mkF_r hc.1 hc.2]; show Value.int .i64 ((if j - 1 = r then v else M.rdy (j - 1) : Nat) : Int) = _; rw [if_neg (by omega)]
    · rw [mkF_a hc.1 hc.2, mkF_a hc.1 hc.2]
    · subst hc; first | rfl | omega
    · subst hc; first | rfl | omega
    · subst hc; first | rfl | omega
theorem MkC.putI {W : World} {mb : Nat} {M : Mk} {vr : Value} (C : MkC W mb M vr) (v : Nat) : MkC (W.setCell ⟨mb, 129, none⟩ (.int .i64 (v : Int))) mb { M with bI := v } vr := by
  refine RowIs.put C (129) _ _ ?_ (fun j hj hne => ?_)
  · rfl
  · have hc : j = 0 ∨ (1 ≤ j ∧ j < 65) ∨ (65 ≤ j ∧ j < 129) ∨ j = 129 ∨ j = 130 ∨ j = 131 := by omega
    rcases hc with hc | hc | hc | hc | hc | hc
    · subst hc; rfl
    · rw [mkF_r hc.1 hc.2, mkF_r hc.1 hc.2]
    · rw [mkF_a hc.1 hc.2, mkF_a hc.1 hc.2]
    · subst hc; first | rfl | omega
    · subst hc; first | rfl | omega
    · subst hc; first | rfl | omega
theorem MkC.putS {W : World} {mb : Nat} {M : Mk} {vr : Value} (C : MkC W mb M vr) (v : Nat) : MkC (W.setCell ⟨mb, 130, none⟩ (.int .i64 (v : Int))) mb { M with bS := v } vr := by
  refine RowIs.put C (130) _ _ ?_ (fun j hj hne => ?_)
  · rfl
  · have hc : j = 0 ∨ (1 ≤ j ∧ j < 65) ∨ (65 ≤ j ∧ j < 129) ∨ j = 129 ∨ j = 130 ∨ j = 131 := by omega
    rcases hc with hc | hc | hc | hc | hc | hc
    · subst hc; rfl
    · rw [mkF_r hc.1 hc.2, mkF_r hc.1 hc.2]
    · rw [mkF_a hc.1 hc.2, mkF_a hc.1 hc.2]
    · subst hc; first | rfl | omega
    · subst hc; first | rfl | omega
    · subst hc; first | rfl | omega
theorem MkC.putM {W : World} {mb : Nat} {M : Mk} {vr : Value} (C : MkC W mb M vr) (v : Nat) : MkC (W.setCell ⟨mb, 131, none⟩ (.int .i64 (v : Int))) mb { M with bM := v } vr := by
  refine RowIs.put C (131) _ _ ?_ (fun j hj hne => ?_)
  · rfl
  · have hc : j = 0 ∨ (1 ≤ j ∧ j < 65) ∨ (65 ≤ j ∧ j < 129) ∨ j = 129 ∨ j = 130 ∨ j = 131 := by omega
    rcases hc with hc | hc | hc | hc | hc | hc
    · subst hc; rfl
    · rw [mkF_r hc.1 hc.2, mkF_r hc.1 hc.2]
    · rw [mkF_a hc.1 hc.2, mkF_a hc.1 hc.2]
    · subst hc; first | rfl | omega
    · subst hc; first | rfl | omega
    · subst hc; first | rfl | omega
theorem ntA_snoc (f : Nat → Nat) (n : Nat) (l : List Int) (r : Int) : ntA f n (l ++ [r]) = setN (ntA f n l) r.toNat (max (ntA f n l r.toNat) n) := by simp [ntA]
structure NtAt (w W : World) (mb : Nat) (M : Mk) (vr : Value) (o : Opx) : Prop where
  g : w.grownBy W (some mb)
  c : MkC W mb M vr
  x : BoxP W w.heap.size o
theorem NtAt.stays {w W W' : World} {mb : Nat} {M : Mk} {vr : Value} {o : Opx} (N : NtAt w W mb M vr o) (h : Below W.heap.size W W') : NtAt w W' mb M vr o := ⟨grown_transP N.g (grown_belowP h), N.c.stays h, N.x.stays h⟩
theorem NtAt.turn {w W W' : World} {mb : Nat} {M M' : Mk} {vr : Value} {o : Opx} (N : NtAt w W mb M vr o) (hmb : mb < w.heap.size) (h : W.grownBy W' (some mb)) (C : MkC W' mb M' vr) : NtAt w W' mb M' vr o := ⟨grown_transP N.g h, C, N.x.block (h.block _ N.x.lt (by intro e; have := Option.some.inj e; omega))⟩
structure CkN (W : World) (mb r : Nat) (x : Int) : Prop where
  a : W.cell? ⟨mb, 65 + r, none⟩ = some (.int .i64 x)
set_option maxRecDepth 100000 in
set_option maxHeartbeats 4000000 in
theorem note_any {w : World} {mb : Nat} {M : Mk} {vr : Value} (C : MkC w mb M vr) (hM : ∀ r, M.ask r ≤ 100000) (hbm : M.bM ≤ 100000) (o : Opx) {many : Int} (ho : opE o many = 0) (n : Nat) (hn : n ≤ 100000) :
    Calls Tryz.prog 143 #[.pointer (some ⟨mb, 0, none⟩), opV o, .int .i64 (n : Int)] w fun e w' => e = .returned (.tuple #[]) ∧ MkC w' mb (note M o n) vr ∧ w.grownBy w' (some mb) := by
  have B0 : Below w.heap.size w (w.alloc (.cells #[.string o.s, .int .i64 o.d, .int .i64 o.a, .int .i64 o.b, .int .u32 o.i, .int .i64 o.t] 139)) := (Below.refl _ _).alloc (Nat.le_refl _) _
  have N0 : NtAt w (w.alloc (.cells #[.string o.s, .int .i64 o.d, .int .i64 o.a, .int .i64 o.b, .int .u32 o.i, .int .i64 o.t] 139)) mb M vr o := ⟨grown_belowP B0, C.stays B0, BoxP.new w o⟩
  have hmb := C.lt
  have hrd := fun W => reads_any o W
  have hwr := fun W => writes_any o W
  have HRB : Hid (∀ r ∈ rdX o, 0 ≤ r ∧ r < 64) := rdX_bd ho
  have hL3 := rdX_len o
  obtain ⟨wr0, wr1⟩ := well_wr ho
  have HK : Hid (kn o.s = 23 ∨ kn o.s = 24 ∨ kn o.s = 25 ∨ (kn o.s ≠ 23 ∧ kn o.s ≠ 24 ∧ kn o.s ≠ 25)) := by show _ ∨ _; omega
  obtain ⟨MF, hMF⟩ : ∃ MF, note M o n = MF := ⟨_, rfl⟩
  have HMF : Hid (note M o n = MF) := hMF
  rw [hMF]
  unfold opV at hrd hwr ⊢
  clear hMF C ho B0
  generalize hl : rdX o = L at *
  generalize hw : wrX o = x at *
  have HAL : Hid (∀ q r, ntA M.ask n (L.take q) r ≤ 100000) := fun q r => ntA_le n 100000 hn (L.take q) M.ask hM r
  go_enter Tryz.func143, Tryz.ntmps143
  go_upto_region 1 with fail
  generalize w.alloc (.cells #[.string o.s, .int .i64 o.d, .int .i64 o.a, .int .i64 o.b, .int .u32 o.i, .int .i64 o.t] 139) = V at *
  have HN0 : Hid (NtAt w V mb M vr o) := N0
  have zx := N0.x.lt
  obtain ⟨c0, c1, c2, c3, c4, c5⟩ := N0.x
  clear N0
  go_wp2_with fail
  refine (hrd _).mono ?_
  rintro e w2 ⟨v, rfl, hown, hb2⟩
  obtain ⟨ao, cp, rfl, hcp, hcl⟩ := intsP hown
  have HI : Hid (0 < L.length → ∃ g, ao = some ⟨g, 0, none⟩ ∧ V.heap.size ≤ g ∧ ∀ (i : Nat) (x : Int), L[i]? = some x → w2.cell? ⟨g, i, none⟩ = some (.int .i64 x)) := hcl
  have N2 : Hid (NtAt w w2 mb M vr o) := HN0.out.stays hb2
  have hmV : mb < V.heap.size := HN0.out.c.lt
  clear hrd hown hcl hb2 HN0 c0 c1 c2 c3 c4 c5 zx
  go_wp2
  go_loopw [12] (fun i wr => ∃ q : Nat, q ≤ L.length ∧ i = .int .i64 q ∧ NtAt w wr mb { M with ask := ntA M.ask n (L.take q) } vr o ∧ w2.grownBy wr (some mb)) (fun i _ => L.length - (intOf i).toNat)
  case atStart => exact ⟨0, Nat.zero_le _, rfl, N2.out, ⟨rfl, rfl, rfl, Nat.le_refl _, fun _ _ _ => rfl⟩⟩
  case round =>
    obtain ⟨q, hq, rfl, hN, hG⟩ := hrel
    have HN : Hid (NtAt w wr mb { M with ask := ntA M.ask n (L.take q) } vr o) := hN
    have HG : Hid (w2.grownBy wr (some mb)) := hG
    have zmb : mb < wr.heap.size := hN.c.lt
    clear N2
    by_cases hlt : q < L.length
    · obtain ⟨r, hr⟩ : ∃ r, L[q]? = some r := ⟨_, List.getElem?_eq_getElem hlt⟩
      obtain ⟨g, rfl, hgb, hgc⟩ := HI.out (by omega)
      have hy2 := hgc q r hr
      have hgz2 : g < w2.heap.size := World.block_lt_of_cell? _ _ hy2
      have hyc : wr.cell? ⟨g, q, none⟩ = some (.int .i64 r) := (World.cell?_of_block (a := ⟨g, q, none⟩) (hG.block g hgz2 (by intro e; have := Option.some.inj e; omega))).trans hy2
      have hgz := World.block_lt_of_cell? _ _ hyc
      have hlt' : (q : Int) < L.length := by omega
      obtain ⟨r0, r1⟩ := HRB.out r (List.mem_of_getElem? hr)
      have hrc := hN.c.ak r.toNat (by omega)
      have hfz := hN.c.fz (65 + r.toNat)
      have hal := HAL.out q r.toNat
      have HS : Hid (ntA M.ask n (L.take (q + 1)) = setN (ntA M.ask n (L.take q)) r.toNat (max (ntA M.ask n (L.take q) r.toNat) n)) := by show _ = _; rw [take_snoc' hr, ntA_snoc]
      have hrc : wr.cell? ⟨mb, 65 + r.toNat, none⟩ = some (.int .i64 (ntA M.ask n (L.take q) r.toNat : Int)) := hrc
      obtain ⟨mx, hmx⟩ : ∃ mx : Nat, mx = max (ntA M.ask n (L.take q) r.toNat) n := ⟨_, rfl⟩
      have RES : Hid (NtAt w (wr.setCell ⟨mb, 65 + r.toNat, none⟩ (.int .i64 (mx : Int))).drew mb { M with ask := ntA M.ask n (L.take (q + 1)) } vr o ∧ w2.grownBy (wr.setCell ⟨mb, 65 + r.toNat, none⟩ (.int .i64 (mx : Int))).drew (some mb)) := by
        refine ⟨hN.turn hmb (grown_drewP (grown_setP _ _)) ?_, grown_transP hG (grown_drewP (grown_setP _ _))⟩
        rw [HS.out, ← hmx]
        exact (hN.c.putA r.toNat (by omega) mx).drew
      have hm2 : ∀ (ts : Array TypeId) (t : TypeId) (W : World), (Builtin.max_ ts t #[.int .i64 (ntA M.ask n (L.take q) r.toNat : Int), .int .i64 (n : Int)]).run Tryz.prog W = .ok (.int .i64 (mx : Int)) W := fun ts t W => by
        rw [run_max_int2]
        congr 2
        split <;> omega
      clear hr hgc HI hy2 hN hG HN HG HS hmx hgz2 hgb HAL
      generalize ntA M.ask n (L.take q) r.toNat = av at *
      go_wp2
      refine wp_region_phase 13 [(0, 0), (1, 0), (2, 0), (3, 0), (4, 0), (5, 0), (6, 0), (7, 1), (8, 0), (9, 0), (10, 0), (11, 0), (12, 0), (13, 2)] (fun W => CkN W mb r.toNat (av : Int)) (by kernel_rfl) (by kernel_rfl) (fun _ _ _ d _ h => by cases d <;> exact h) ⟨by simpa using hrc⟩ ?_
      repeat (first | (refine wpPlanZ_free (by rfl) (by rfl) (fun W => by (go_simp; try with_reducible rfl)) (fun K hK => ?_); go_simp; refine hK _ ?_; clear hK K) | (refine wpPlanZ_quiet (by rfl) (by rfl) (fun W hW => by (obtain ⟨s0⟩ := hW; go_simp; try with_reducible rfl)) (fun K hK => ?_); go_simp; refine hK _ ?_; clear hK K))
      refine wpPlanZ_serial (by rfl) (by rfl) (fun K hK => ?_)
      go_simp
      refine hK _ _ (fun h => absurd h (by decide)) ?_
      clear hK K hm2
      refine wpPlanZ_nil ?_
      clear hrc hfz zmb hyc hgz
      generalize (wr.setCell ⟨mb, 65 + r.toNat, none⟩ (.int .i64 (mx : Int))).drew = W3 at *
      go_wp2
      go_roundw
      case rel => exact ⟨q + 1, by omega, by go_num, RES.out.1, RES.out.2⟩
      case measure => simp [intOf]; omega
    · obtain rfl : q = L.length := by omega
      rw [List.take_length] at HN
      have zx := HN.out.x.lt
      obtain ⟨c0, c1, c2, c3, c4, c5⟩ := HN.out.x
      clear HI hN hG HG HRB HAL hq
      go_wp2_with fail
      refine (hwr _).mono ?_
      rintro e w3 ⟨rfl, hb3⟩
      have N3 : Hid (NtAt w w3 mb { M with ask := ntA M.ask n L } vr o) := HN.out.stays hb3
      clear hwr hb3 c0 c1 c2 c3 c4 c5 HN zx zmb
      have HMX : Hid (MF = { M with ask := ntA M.ask n L, rdy := if x ≠ 0 then setN M.rdy x.toNat (n + 1) else M.rdy, bI := if o.k = 25 then n + 1 else M.bI, bS := if o.k = 24 then n + 1 else M.bS, bM := if o.k = 23 then max M.bM (n + 1) else if o.k = 24 then n + 1 else M.bM }) := by show _ = _; rw [← HMF.out]; unfold note; rw [hl, hw]
      clear HMF hl hw
      by_cases hx : x = 0
      · have hxb : (x != 0) = false := by simp [hx]
        obtain ⟨M2, hM2⟩ : ∃ M2 : Mk, M2 = { M with ask := ntA M.ask n L } := ⟨_, rfl⟩
        rw [← hM2] at N3
        have HM3 : Hid (MF = { M2 with bI := if o.k = 25 then n + 1 else M2.bI, bS := if o.k = 24 then n + 1 else M2.bS, bM := if o.k = 23 then max M2.bM (n + 1) else if o.k = 24 then n + 1 else M2.bM }) := by show _ = _; rw [HMX.out, hM2, if_neg (by simp [hx])]
        have hbm2 : M2.bM ≤ 100000 := by rw [hM2]; exact hbm
        clear HMX hM2 hx
        have zm := N3.out.c.lt
        have zx := N3.out.x.lt
        have d0 := N3.out.x.c0
        have gi := N3.out.c.i
        have gs := N3.out.c.s
        have gm := N3.out.c.m
        have fi := N3.out.c.fz 129
        have fs := N3.out.c.fz 130
        have fm := N3.out.c.fz 131
        rcases HK.out with h | h | h | h
        · have HE : Hid (MF = { M2 with bM := max M2.bM (n + 1) }) := by show _ = _; rw [HM3.out]; unfold Opx.k; simp [h]
          have f23 : (o.s.toList == [108, 111, 97, 100]) = true := by rw [show (o.s.toList == [108, 111, 97, 100]) = _ from kn_eq o.s 23 (by omega) (by omega), h]; rfl
          have f24 : (o.s.toList == [115, 116, 111, 114, 101]) = false := by rw [show (o.s.toList == [115, 116, 111, 114, 101]) = _ from kn_eq o.s 24 (by omega) (by omega), h]; rfl
          have f25 : (o.s.toList == [105, 102]) = false := by rw [show (o.s.toList == [105, 102]) = _ from kn_eq o.s 25 (by omega) (by omega), h]; rfl
          have NF : Hid (NtAt w (w3.setCell ⟨mb, 131, none⟩ (.int .i64 ((max M2.bM (n + 1) : Nat) : Int))) mb MF vr o) := by rw [HE.out]; exact N3.out.turn hmb (grown_setP _ _) (N3.out.c.putM _)
          obtain ⟨mx, hmx⟩ : ∃ mx : Nat, mx = max M2.bM (n + 1) := ⟨_, rfl⟩
          rw [← hmx] at NF
          have hm2 : ∀ (ts : Array TypeId) (t : TypeId) (W : World), (Builtin.max_ ts t #[.int .i64 (M2.bM : Int), .int .i64 ((n : Int) + 1)]).run Tryz.prog W = .ok (.int .i64 (mx : Int)) W := fun ts t W => by
            rw [run_max_int2]
            congr 2
            split <;> omega
          clear h HK HM3 HE hmx N3
          go_wp2
          go_end0
          exact ⟨rfl, NF.out.c, NF.out.g⟩
        · have HE : Hid (MF = { { M2 with bS := n + 1 } with bM := n + 1 }) := by show _ = _; rw [HM3.out]; unfold Opx.k; simp [h]
          have f23 : (o.s.toList == [108, 111, 97, 100]) = false := by rw [show (o.s.toList == [108, 111, 97, 100]) = _ from kn_eq o.s 23 (by omega) (by omega), h]; rfl
          have f24 : (o.s.toList == [115, 116, 111, 114, 101]) = true := by rw [show (o.s.toList == [115, 116, 111, 114, 101]) = _ from kn_eq o.s 24 (by omega) (by omega), h]; rfl
          have f25 : (o.s.toList == [105, 102]) = false := by rw [show (o.s.toList == [105, 102]) = _ from kn_eq o.s 25 (by omega) (by omega), h]; rfl
          have NF : Hid (NtAt w ((w3.setCell ⟨mb, 130, none⟩ (.int .i64 ((n : Int) + 1))).setCell ⟨mb, 131, none⟩ (.int .i64 ((n : Int) + 1))) mb MF vr o) := by rw [HE.out]; exact (N3.out.turn hmb (grown_setP _ _) (N3.out.c.putS (n + 1))).turn hmb (grown_setP _ _) ((N3.out.c.putS (n + 1)).putM (n + 1))
          clear h HK HM3 HE N3
          go_wp2
          go_end0
          exact ⟨rfl, NF.out.c, NF.out.g⟩
        · have HE : Hid (MF = { M2 with bI := n + 1 }) := by show _ = _; rw [HM3.out]; unfold Opx.k; simp [h]
          have f23 : (o.s.toList == [108, 111, 97, 100]) = false := by rw [show (o.s.toList == [108, 111, 97, 100]) = _ from kn_eq o.s 23 (by omega) (by omega), h]; rfl
          have f24 : (o.s.toList == [115, 116, 111, 114, 101]) = false := by rw [show (o.s.toList == [115, 116, 111, 114, 101]) = _ from kn_eq o.s 24 (by omega) (by omega), h]; rfl
          have f25 : (o.s.toList == [105, 102]) = true := by rw [show (o.s.toList == [105, 102]) = _ from kn_eq o.s 25 (by omega) (by omega), h]; rfl
          have NF : Hid (NtAt w (w3.setCell ⟨mb, 129, none⟩ (.int .i64 ((n : Int) + 1))) mb MF vr o) := by rw [HE.out]; exact N3.out.turn hmb (grown_setP _ _) (N3.out.c.putI (n + 1))
          clear h HK HM3 HE N3
          go_wp2
          go_end0
          exact ⟨rfl, NF.out.c, NF.out.g⟩
        · have HE : Hid (MF = M2) := by show _ = _; rw [HM3.out]; unfold Opx.k; rw [if_neg h.2.2, if_neg h.2.1, if_neg h.1, if_neg h.2.1]
          have f23 : (o.s.toList == [108, 111, 97, 100]) = false := by rw [show (o.s.toList == [108, 111, 97, 100]) = _ from kn_eq o.s 23 (by omega) (by omega)]; simp only [decide_eq_false_iff_not]; first | exact h.1 | exact h.2.1 | exact h.2.2
          have f24 : (o.s.toList == [115, 116, 111, 114, 101]) = false := by rw [show (o.s.toList == [115, 116, 111, 114, 101]) = _ from kn_eq o.s 24 (by omega) (by omega)]; simp only [decide_eq_false_iff_not]; first | exact h.1 | exact h.2.1 | exact h.2.2
          have f25 : (o.s.toList == [105, 102]) = false := by rw [show (o.s.toList == [105, 102]) = _ from kn_eq o.s 25 (by omega) (by omega)]; simp only [decide_eq_false_iff_not]; first | exact h.1 | exact h.2.1 | exact h.2.2
          have NF : Hid (NtAt w w3 mb MF vr o) := by rw [HE.out]; exact N3.out
          clear h HK HM3 HE N3
          go_wp2
          go_end0
          exact ⟨rfl, NF.out.c, NF.out.g⟩
      · have hxb : (x != 0) = true := by simp [hx]
        have zm := N3.out.c.lt
        have g1 := N3.out.c.rd x.toNat (by omega)
        have g2 := N3.out.c.fz (1 + x.toNat)
        have NS : Hid (NtAt w (w3.setCell ⟨mb, 1 + x.toNat, none⟩ (.int .i64 ((n + 1 : Nat) : Int))) mb { M with ask := ntA M.ask n L, rdy := setN M.rdy x.toNat (n + 1) } vr o) := N3.out.turn hmb (grown_setP _ _) (N3.out.c.putR x.toNat (by omega) (n + 1))
        have hnn : ((n + 1 : Nat) : Int) = (n : Int) + 1 := rfl
        rw [hnn] at NS
        have g1 : w3.cell? ⟨mb, 1 + x.toNat, none⟩ = some (.int .i64 (M.rdy x.toNat : Int)) := g1
        obtain ⟨M2, hM2⟩ : ∃ M2 : Mk, M2 = { M with ask := ntA M.ask n L, rdy := setN M.rdy x.toNat (n + 1) } := ⟨_, rfl⟩
        rw [← hM2] at NS
        have HM3 : Hid (MF = { M2 with bI := if o.k = 25 then n + 1 else M2.bI, bS := if o.k = 24 then n + 1 else M2.bS, bM := if o.k = 23 then max M2.bM (n + 1) else if o.k = 24 then n + 1 else M2.bM }) := by show _ = _; rw [HMX.out, hM2, if_pos hx]
        have hbm2 : M2.bM ≤ 100000 := by rw [hM2]; exact hbm
        clear HMX hM2 hx N3 hnn
        go_upto_region 9 with fail
        generalize w3.setCell ⟨mb, 1 + x.toNat, none⟩ (.int .i64 ((n : Int) + 1)) = w4 at *
        clear g1 g2 zm
        have zm := NS.out.c.lt
        have zx := NS.out.x.lt
        have d0 := NS.out.x.c0
        have gi := NS.out.c.i
        have gs := NS.out.c.s
        have gm := NS.out.c.m
        have fi := NS.out.c.fz 129
        have fs := NS.out.c.fz 130
        have fm := NS.out.c.fz 131
        rcases HK.out with h | h | h | h
        · have HE : Hid (MF = { M2 with bM := max M2.bM (n + 1) }) := by show _ = _; rw [HM3.out]; unfold Opx.k; simp [h]
          have f23 : (o.s.toList == [108, 111, 97, 100]) = true := by rw [show (o.s.toList == [108, 111, 97, 100]) = _ from kn_eq o.s 23 (by omega) (by omega), h]; rfl
          have f24 : (o.s.toList == [115, 116, 111, 114, 101]) = false := by rw [show (o.s.toList == [115, 116, 111, 114, 101]) = _ from kn_eq o.s 24 (by omega) (by omega), h]; rfl
          have f25 : (o.s.toList == [105, 102]) = false := by rw [show (o.s.toList == [105, 102]) = _ from kn_eq o.s 25 (by omega) (by omega), h]; rfl
          have NF : Hid (NtAt w (w4.setCell ⟨mb, 131, none⟩ (.int .i64 ((max M2.bM (n + 1) : Nat) : Int))) mb MF vr o) := by rw [HE.out]; exact NS.out.turn hmb (grown_setP _ _) (NS.out.c.putM _)
          obtain ⟨mx, hmx⟩ : ∃ mx : Nat, mx = max M2.bM (n + 1) := ⟨_, rfl⟩
          rw [← hmx] at NF
          have hm2 : ∀ (ts : Array TypeId) (t : TypeId) (W : World), (Builtin.max_ ts t #[.int .i64 (M2.bM : Int), .int .i64 ((n : Int) + 1)]).run Tryz.prog W = .ok (.int .i64 (mx : Int)) W := fun ts t W => by
            rw [run_max_int2]
            congr 2
            split <;> omega
          clear h HK HM3 HE hmx NS
          go_wp2
          go_end0
          exact ⟨rfl, NF.out.c, NF.out.g⟩
        · have HE : Hid (MF = { { M2 with bS := n + 1 } with bM := n + 1 }) := by show _ = _; rw [HM3.out]; unfold Opx.k; simp [h]
          have f23 : (o.s.toList == [108, 111, 97, 100]) = false := by rw [show (o.s.toList == [108, 111, 97, 100]) = _ from kn_eq o.s 23 (by omega) (by omega), h]; rfl
          have f24 : (o.s.toList == [115, 116, 111, 114, 101]) = true := by rw [show (o.s.toList == [115, 116, 111, 114, 101]) = _ from kn_eq o.s 24 (by omega) (by omega), h]; rfl
          have f25 : (o.s.toList == [105, 102]) = false := by rw [show (o.s.toList == [105, 102]) = _ from kn_eq o.s 25 (by omega) (by omega), h]; rfl
          have NF : Hid (NtAt w ((w4.setCell ⟨mb, 130, none⟩ (.int .i64 ((n : Int) + 1))).setCell ⟨mb, 131, none⟩ (.int .i64 ((n : Int) + 1))) mb MF vr o) := by rw [HE.out]; exact (NS.out.turn hmb (grown_setP _ _) (NS.out.c.putS (n + 1))).turn hmb (grown_setP _ _) ((NS.out.c.putS (n + 1)).putM (n + 1))
          clear h HK HM3 HE NS
          go_wp2
          go_end0
          exact ⟨rfl, NF.out.c, NF.out.g⟩
        · have HE : Hid (MF = { M2 with bI := n + 1 }) := by show _ = _; rw [HM3.out]; unfold Opx.k; simp [h]
          have f23 : (o.s.toList == [108, 111, 97, 100]) = false := by rw [show (o.s.toList == [108, 111, 97, 100]) = _ from kn_eq o.s 23 (by omega) (by omega), h]; rfl
          have f24 : (o.s.toList == [115, 116, 111, 114, 101]) = false := by rw [show (o.s.toList == [115, 116, 111, 114, 101]) = _ from kn_eq o.s 24 (by omega) (by omega), h]; rfl
          have f25 : (o.s.toList == [105, 102]) = true := by rw [show (o.s.toList == [105, 102]) = _ from kn_eq o.s 25 (by omega) (by omega), h]; rfl
          have NF : Hid (NtAt w (w4.setCell ⟨mb, 129, none⟩ (.int .i64 ((n : Int) + 1))) mb MF vr o) := by rw [HE.out]; exact NS.out.turn hmb (grown_setP _ _) (NS.out.c.putI (n + 1))
          clear h HK HM3 HE NS
          go_wp2
          go_end0
          exact ⟨rfl, NF.out.c, NF.out.g⟩
        · have HE : Hid (MF = M2) := by show _ = _; rw [HM3.out]; unfold Opx.k; rw [if_neg h.2.2, if_neg h.2.1, if_neg h.1, if_neg h.2.1]
          have f23 : (o.s.toList == [108, 111, 97, 100]) = false := by rw [show (o.s.toList == [108, 111, 97, 100]) = _ from kn_eq o.s 23 (by omega) (by omega)]; simp only [decide_eq_false_iff_not]; first | exact h.1 | exact h.2.1 | exact h.2.2
          have f24 : (o.s.toList == [115, 116, 111, 114, 101]) = false := by rw [show (o.s.toList == [115, 116, 111, 114, 101]) = _ from kn_eq o.s 24 (by omega) (by omega)]; simp only [decide_eq_false_iff_not]; first | exact h.1 | exact h.2.1 | exact h.2.2
          have f25 : (o.s.toList == [105, 102]) = false := by rw [show (o.s.toList == [105, 102]) = _ from kn_eq o.s 25 (by omega) (by omega)]; simp only [decide_eq_false_iff_not]; first | exact h.1 | exact h.2.1 | exact h.2.2
          have NF : Hid (NtAt w w4 mb MF vr o) := by rw [HE.out]; exact NS.out
          clear h HK HM3 HE NS
          go_wp2
          go_end0
          exact ⟨rfl, NF.out.c, NF.out.g⟩
end Go.Proofs.YtflagpkmebdckaaGreatDoor
