/-
  OptAgain's walk.
-/
import Derived.Test.YtcccaejjhodnkaaDoorBett
import Derived.Test.YtcccaejjhodnkaaDoorDoc4
namespace Go.Proofs.YtcccaejjhodnkaaDoor
open Go.RowKit Go.Maps
open Num
set_option linter.unusedVariables false
/-- a code in its box -/
structure CBox (W : World) (b : Nat) (pc many : Int) (v : Value) : Prop where
  k0 : W.cell? ⟨b, 0, none⟩ = some (.int .u32 pc)
  k1 : W.cell? ⟨b, 1, none⟩ = some (.int .i64 many)
  k2 : W.cell? ⟨b, 2, none⟩ = some v
theorem CBox.lt {W : World} {b : Nat} {pc many : Int} {v : Value} (C : CBox W b pc many v) : b < W.heap.size := World.block_lt_of_cell? _ _ C.k0
theorem CBox.stays {W W' : World} {b : Nat} {pc many : Int} {v : Value} (C : CBox W b pc many v) (h : Below W.heap.size W W') : CBox W' b pc many v :=
  ⟨(h.cell (p := ⟨b, 0, none⟩) C.lt).trans C.k0, (h.cell (p := ⟨b, 1, none⟩) C.lt).trans C.k1, (h.cell (p := ⟨b, 2, none⟩) C.lt).trans C.k2⟩
theorem CBox.new (w : World) (pc many : Int) (v : Value) : CBox (w.alloc (.cells #[.int .u32 pc, .int .i64 many, v] 35)) w.heap.size pc many v := ⟨by simp, by simp, by simp⟩
theorem alloc_below (w : World) (o : Obj) : Below w.heap.size w (w.alloc o) := (Below.refl _ _).alloc (Nat.le_refl _) _
set_option maxRecDepth 100000 in
set_option maxHeartbeats 4000000 in
theorem optAgain_any (pe : Nat → Addr) {w : World} (E : Eg pe w) {v : Value} {l : List Opx} (A : OpsIn w v l) (hl : (l.length : Int) ≤ 9223372036854775807) (hs : ∀ o ∈ l, (o.s.size : Int) ≤ 9223372036854775807) (many : Int) (m0 : -9223372036854775808 ≤ many) (m1 : many ≤ 9223372036854775807) :
    Calls Tryd.prog 5 #[.int .i64 many, v] w fun e w' => e = .returned (.bool true) ∧ Below w.heap.size w w' := by
  have hbt := bettered_any pe E
  have EH : Hid (Eg pe w) := E
  have AH : Hid (OpsIn w v l) := A
  have SZ : Hid (∀ o ∈ l, (o.s.size : Int) ≤ 9223372036854775807) := hs
  obtain ⟨ao, cap, rfl, _⟩ := A.sh
  clear E A hs
  go_enter Tryd.func5, Tryd.ntmps5
  go_wp2_with fail
  refine hbt.mono ?_
  rintro e w1 ⟨rfl, hb1⟩
  have B1 : Hid (Below w.heap.size w w1) := hb1
  have A1 : Hid (OpsIn w1 (.slice ao l.length cap) l) := AH.out.stays hb1
  have cL := longOps_any A1.out hl SZ.out 60
  clear hbt hb1
  by_cases hLO : longO l 60 = true
  · rw [if_pos hLO] at cL
    go_wp2_with fail
    refine cL.mono ?_
    rintro e w2 ⟨rfl, hw⟩
    rw [hw]
    clear hw w2
    go_wp2
    go_ret
    exact ⟨rfl, B1.out⟩
  rw [if_neg hLO] at cL
  have hl201 : l.length ≤ 201 := by
    unfold longO at hLO
    simp only [Bool.or_eq_true, Bool.and_eq_true, decide_eq_true_eq, not_or, not_and] at hLO
    have := hLO.1
    omega
  have hl201' : (l.length : Int) ≤ 201 := by omega
  clear hLO
  have hoo := ownOps_any A1.out (by omega)
  go_wp2_with fail
  refine cL.mono ?_
  rintro e w2 ⟨rfl, hw⟩
  rw [hw]
  clear hw w2 cL
  go_wp2_with fail
  refine hoo.mono ?_
  rintro e w2 ⟨v2, rfl, hA2, hb2⟩
  obtain ⟨ao2, cap2, rfl, _⟩ := hA2.sh
  have B2 : Hid (Below w.heap.size w w2) := B1.out.trans (hb2.mono B1.out.size)
  have B3 : Hid (Below w.heap.size w (w2.alloc (.cells #[.int .u32 0, .int .i64 many, .slice ao2 l.length cap2] 35))) := B2.out.trans ((alloc_below _ _).mono B2.out.size)
  have A3 : Hid (OpsIn (w2.alloc (.cells #[.int .u32 0, .int .i64 many, .slice ao2 l.length cap2] 35)) (.slice ao2 l.length cap2) l) := hA2.stays (alloc_below _ _)
  have C3 : Hid (CBox (w2.alloc (.cells #[.int .u32 0, .int .i64 many, .slice ao2 l.length cap2] 35)) w2.heap.size 0 many (.slice ao2 l.length cap2)) := CBox.new _ _ _ _
  clear hoo hb2 hA2 A1 B1 B2
  go_upto_region 5 with fail
  generalize w2.alloc (.cells #[.int .u32 0, .int .i64 many, .slice ao2 l.length cap2] 35) = W3 at *
  generalize w2.heap.size = cb at *
  have E3 : Hid (Eg pe W3) := EH.out.stays B3.out
  obtain ⟨k0, k1, k2⟩ := C3.out
  have hcz := C3.out.lt
  by_cases hcf : codeF many l = (0, -1)
  · have WL : Hid (Well many l) := codeF_well.1 hcf
    have h1 := opt_1 pe E3.out A3.out (by omega) 0 many m0 m1 hcf
    have L1 : Hid ((optL 1 l).length ≤ l.length) := optL_len 1 l
    have L2 : Hid ((optL 2 l).length ≤ l.length) := optL_len 2 l
    have L3 : Hid ((optL 2 (optL 2 l)).length ≤ (optL 2 l).length) := optL_len 2 _
    have K1 : Hid (knownC fx0 (optL 1 l) = 0) := known_opt (by omega) l
    have D1 : Hid (deadN (optL 2 (optL 2 l)) = 0) := dead_opt (WL.out.opt 2) (by omega)
    have CF : Hid (codeF many l = (0, -1)) := hcf
    clear hcf
    go_wp2_with fail
    refine h1.mono ?_
    rintro e w4 ⟨ga, ca, rfl, hca, hRa, hga, hb4, hoka⟩
    have XA : Hid (OpsIn w4 (.slice (some ⟨ga, 0, none⟩) (optL 1 l).length ca) (optL 1 l)) := hRa.in hca hoka
    have B4 : Hid (Below w.heap.size w w4) := B3.out.trans (hb4.mono B3.out.size)
    have C4 := C3.out.stays hb4
    have A4 := A3.out.stays hb4
    have B5 : Hid (Below w.heap.size w (w4.alloc (.cells #[.int .u32 0, .int .i64 many, .slice (some ⟨ga, 0, none⟩) (optL 1 l).length ca] 35))) := B4.out.trans ((alloc_below _ _).mono B4.out.size)
    have XA5 : Hid (OpsIn (w4.alloc (.cells #[.int .u32 0, .int .i64 many, .slice (some ⟨ga, 0, none⟩) (optL 1 l).length ca] 35)) (.slice (some ⟨ga, 0, none⟩) (optL 1 l).length ca) (optL 1 l)) := XA.out.stays (alloc_below _ _)
    have C5 : Hid (CBox (w4.alloc (.cells #[.int .u32 0, .int .i64 many, .slice (some ⟨ga, 0, none⟩) (optL 1 l).length ca] 35)) cb 0 many (.slice ao2 l.length cap2)) := C4.stays (alloc_below _ _)
    have A5 : Hid (OpsIn (w4.alloc (.cells #[.int .u32 0, .int .i64 many, .slice (some ⟨ga, 0, none⟩) (optL 1 l).length ca] 35)) (.slice ao2 l.length cap2) l) := A4.stays (alloc_below _ _)
    have CA5 : Hid (CBox (w4.alloc (.cells #[.int .u32 0, .int .i64 many, .slice (some ⟨ga, 0, none⟩) (optL 1 l).length ca] 35)) w4.heap.size 0 many (.slice (some ⟨ga, 0, none⟩) (optL 1 l).length ca)) := CBox.new _ _ _ _
    clear h1 hRa hb4 hoka XA C4 A4 k0 k1 k2 C3 A3
    go_upto_region 6 with fail
    generalize w4.alloc (.cells #[.int .u32 0, .int .i64 many, .slice (some ⟨ga, 0, none⟩) (optL 1 l).length ca] 35) = W5 at *
    generalize w4.heap.size = ab at *
    have h2 := opt_2 pe (EH.out.stays B5.out) A5.out (by omega) 0 many m0 m1 CF.out
    obtain ⟨k0, k1, k2⟩ := C5.out
    have hcz := C5.out.lt
    go_wp2_with fail
    refine h2.mono ?_
    rintro e w6 ⟨gb, cb2, rfl, hcb, hRb, hgb, hb6, hokb⟩
    have XB : Hid (OpsIn w6 (.slice (some ⟨gb, 0, none⟩) (optL 2 l).length cb2) (optL 2 l)) := hRb.in hcb hokb
    have B6 : Hid (Below w.heap.size w w6) := B5.out.trans (hb6.mono B5.out.size)
    have XA6 := XA5.out.stays hb6
    have CA6 := CA5.out.stays hb6
    have B7 : Hid (Below w.heap.size w (w6.alloc (.cells #[.int .u32 0, .int .i64 many, .slice (some ⟨gb, 0, none⟩) (optL 2 l).length cb2] 35))) := B6.out.trans ((alloc_below _ _).mono B6.out.size)
    have XA7 : Hid (OpsIn (w6.alloc (.cells #[.int .u32 0, .int .i64 many, .slice (some ⟨gb, 0, none⟩) (optL 2 l).length cb2] 35)) (.slice (some ⟨ga, 0, none⟩) (optL 1 l).length ca) (optL 1 l)) := XA6.stays (alloc_below _ _)
    have XB7 : Hid (OpsIn (w6.alloc (.cells #[.int .u32 0, .int .i64 many, .slice (some ⟨gb, 0, none⟩) (optL 2 l).length cb2] 35)) (.slice (some ⟨gb, 0, none⟩) (optL 2 l).length cb2) (optL 2 l)) := XB.out.stays (alloc_below _ _)
    have CA7 : Hid (CBox (w6.alloc (.cells #[.int .u32 0, .int .i64 many, .slice (some ⟨gb, 0, none⟩) (optL 2 l).length cb2] 35)) ab 0 many (.slice (some ⟨ga, 0, none⟩) (optL 1 l).length ca)) := CA6.stays (alloc_below _ _)
    have CB7 : Hid (CBox (w6.alloc (.cells #[.int .u32 0, .int .i64 many, .slice (some ⟨gb, 0, none⟩) (optL 2 l).length cb2] 35)) w6.heap.size 0 many (.slice (some ⟨gb, 0, none⟩) (optL 2 l).length cb2)) := CBox.new _ _ _ _
    clear h2 hRb hb6 hokb XB XA6 CA6 XA5 A5 C5 CA5 k0 k1 k2
    go_upto_region 7 with fail
    generalize w6.alloc (.cells #[.int .u32 0, .int .i64 many, .slice (some ⟨gb, 0, none⟩) (optL 2 l).length cb2] 35) = W7 at *
    generalize w6.heap.size = bb at *
    have hb2len : (optL 2 l).length ≤ 201 := Nat.le_trans L2.out hl201
    have h3 := opt_2 pe (EH.out.stays B7.out) XB7.out (by omega) 0 many m0 m1 (codeF_well.2 (WL.out.opt 2))
    obtain ⟨k0, k1, k2⟩ := CB7.out
    have hcz := CB7.out.lt
    go_wp2_with fail
    refine h3.mono ?_
    rintro e w8 ⟨gd, cd, rfl, hcd, hRd, hgd, hb8, hokd⟩
    have XD : Hid (OpsIn w8 (.slice (some ⟨gd, 0, none⟩) (optL 2 (optL 2 l)).length cd) (optL 2 (optL 2 l))) := hRd.in hcd hokd
    have B8 : Hid (Below w.heap.size w w8) := B7.out.trans (hb8.mono B7.out.size)
    have XA8 := XA7.out.stays hb8
    have CA8 := CA7.out.stays hb8
    have CB8 := CB7.out.stays hb8
    have B9 : Hid (Below w.heap.size w (w8.alloc (.cells #[.int .u32 0, .int .i64 many, .slice (some ⟨gd, 0, none⟩) (optL 2 (optL 2 l)).length cd] 35))) := B8.out.trans ((alloc_below _ _).mono B8.out.size)
    have XA9 : Hid (OpsIn (w8.alloc (.cells #[.int .u32 0, .int .i64 many, .slice (some ⟨gd, 0, none⟩) (optL 2 (optL 2 l)).length cd] 35)) (.slice (some ⟨ga, 0, none⟩) (optL 1 l).length ca) (optL 1 l)) := XA8.stays (alloc_below _ _)
    have XD9 : Hid (OpsIn (w8.alloc (.cells #[.int .u32 0, .int .i64 many, .slice (some ⟨gd, 0, none⟩) (optL 2 (optL 2 l)).length cd] 35)) (.slice (some ⟨gd, 0, none⟩) (optL 2 (optL 2 l)).length cd) (optL 2 (optL 2 l))) := XD.out.stays (alloc_below _ _)
    have CA9 : Hid (CBox (w8.alloc (.cells #[.int .u32 0, .int .i64 many, .slice (some ⟨gd, 0, none⟩) (optL 2 (optL 2 l)).length cd] 35)) ab 0 many (.slice (some ⟨ga, 0, none⟩) (optL 1 l).length ca)) := CA8.stays (alloc_below _ _)
    have CB9 : Hid (CBox (w8.alloc (.cells #[.int .u32 0, .int .i64 many, .slice (some ⟨gd, 0, none⟩) (optL 2 (optL 2 l)).length cd] 35)) bb 0 many (.slice (some ⟨gb, 0, none⟩) (optL 2 l).length cb2)) := CB8.stays (alloc_below _ _)
    have CD9 : Hid (CBox (w8.alloc (.cells #[.int .u32 0, .int .i64 many, .slice (some ⟨gd, 0, none⟩) (optL 2 (optL 2 l)).length cd] 35)) w8.heap.size 0 many (.slice (some ⟨gd, 0, none⟩) (optL 2 (optL 2 l)).length cd)) := CBox.new _ _ _ _
    clear h3 hRd hb8 hokd XD XA8 CA8 CB8 XA7 XB7 CA7 CB7 k0 k1 k2
    go_upto_region 10 with fail
    generalize w8.alloc (.cells #[.int .u32 0, .int .i64 many, .slice (some ⟨gd, 0, none⟩) (optL 2 (optL 2 l)).length cd] 35) = W9 at *
    generalize w8.heap.size = db at *
    have hlA : (optL 1 l).length ≤ 201 := Nat.le_trans L1.out hl201
    have hlD : (optL 2 (optL 2 l)).length ≤ 201 := Nat.le_trans L3.out hb2len
    have q1 : ¬ ((optL 2 l).length : Int) < (optL 2 (optL 2 l)).length := by have := L3.out; omega
    have q2 : ¬ (l.length : Int) < (optL 2 l).length := by have := L2.out; omega
    have q3 : ¬ (l.length : Int) < (optL 1 l).length := by have := L1.out; omega
    have hdd := deadOf_any XD9.out (by omega)
    rw [D1.out] at hdd
    obtain ⟨a0, a1, a2⟩ := CA9.out
    obtain ⟨b0, b1, b2⟩ := CB9.out
    obtain ⟨d0, d1, d2⟩ := CD9.out
    have za := CA9.out.lt
    have zb := CB9.out.lt
    have zd := CD9.out.lt
    go_wp2_with fail
    refine hdd.mono ?_
    rintro e wA ⟨rfl, hbA⟩
    have BA : Hid (Below w.heap.size w wA) := B9.out.trans (hbA.mono B9.out.size)
    have hkk := knownOf_any (XA9.out.stays hbA) (by omega)
    rw [K1.out] at hkk
    obtain ⟨a0, a1, a2⟩ := CA9.out.stays hbA
    have za := (CA9.out.stays hbA).lt
    clear hdd hbA
    go_wp2_with fail
    refine hkk.mono ?_
    rintro e wB ⟨rfl, hbB⟩
    have BB : Hid (Below w.heap.size w wB) := BA.out.trans (hbB.mono BA.out.size)
    clear hkk hbB
    go_wp2
    go_ret
    exact ⟨rfl, BB.out⟩
  · have h1 := opt_bad pe E3.out A3.out (by omega) 0 many 1 m0 m1 hcf
    go_wp2_with fail
    refine h1.mono ?_
    rintro e w4 ⟨⟨t1, p1, rfl, _⟩, hb4⟩
    have B4 : Hid (Below w.heap.size w w4) := B3.out.trans (hb4.mono B3.out.size)
    have C4 := C3.out.stays hb4
    have A4 := A3.out.stays hb4
    have B5 : Hid (Below w.heap.size w (w4.alloc (.cells #[.int .u32 0, .int .i64 0, .slice none 0 0] 35))) := B4.out.trans ((alloc_below _ _).mono B4.out.size)
    have C5 : Hid (CBox (w4.alloc (.cells #[.int .u32 0, .int .i64 0, .slice none 0 0] 35)) cb 0 many (.slice ao2 l.length cap2)) := C4.stays (alloc_below _ _)
    have A5 : Hid (OpsIn (w4.alloc (.cells #[.int .u32 0, .int .i64 0, .slice none 0 0] 35)) (.slice ao2 l.length cap2) l) := A4.stays (alloc_below _ _)
    clear h1 hb4 C4 A4 k0 k1 k2 C3 A3
    go_upto_region 6 with fail
    generalize w4.alloc (.cells #[.int .u32 0, .int .i64 0, .slice none 0 0] 35) = W5 at *
    have h2 := opt_bad pe (EH.out.stays B5.out) A5.out (by omega) 0 many 2 m0 m1 hcf
    obtain ⟨k0, k1, k2⟩ := C5.out
    have hcz := C5.out.lt
    go_wp2_with fail
    refine h2.mono ?_
    rintro e w6 ⟨⟨t2, p2, rfl, _⟩, hb6⟩
    have B6 : Hid (Below w.heap.size w w6) := B5.out.trans (hb6.mono B5.out.size)
    have B7 : Hid (Below w.heap.size w (w6.alloc (.cells #[.int .u32 0, .int .i64 0, .slice none 0 0] 35))) := B6.out.trans ((alloc_below _ _).mono B6.out.size)
    clear h2 hb6 k0 k1 k2
    go_wp2
    go_ret
    exact ⟨rfl, B7.out⟩
end Go.Proofs.YtcccaejjhodnkaaDoor
