/-
  The walk of CpuWaits.
-/
import Derived.Test.YtckcbnfobjmhpaaDoorKStep
namespace Go.Proofs.YtckcbnfobjmhpaaDoor
open Go.RowKit Go.Maps
open Num
set_option linter.unusedVariables false
theorem Mach.put {w0 w w' : World} {base sb bb rb bp bw bh N : Nat} {S S' : St} {b : Bs} {vo vt : Value} (M : Mach w0 w base sb bb rb bp bw bh N S b vo vt) (A : StAt w' sb S') (ok : S'.ok) (T : Kept w w' (· = sb)) : Mach w0 w' base sb bb rb bp bw bh N S' b vo vt :=
  ⟨A, ok, M.B.st T M.lt M.s1 M.s2 M.s3 M.s4 M.s5, M.lamp, M.lt, M.s1, M.s2, M.s3, M.s4, M.s5, T.below M.be (Nat.le_refl _) (fun k hk e => by have := M.l0; omega), M.l0, M.l1, M.l2, M.l3⟩
/-- the state of a wait -/
def Wt (cm st : Int) (i : Nat) : St := { St.new 1024 with pc := 1024 + 4 * (i : Int), nx := 1028 + 4 * (i : Int), cm := cm, st := st, ct := i }
def b0 : Bs := ⟨mw [], [], 0, []⟩
theorem mw_nil (k : Nat) : mw [] k = 0 := by unfold mw; first | rfl | simp
theorem ld_nil (a s : Int) (hs : s = 1 ∨ s = 2 ∨ s = 4) : ld (mw []) a s false = 0 := by
  unfold ld
  rw [mw_nil, Int.zero_ediv]
  rcases hs with rfl | rfl | rfl <;> decide
theorem nop_do (S : St) (b : Bs) (hb : b = b0) (hi : intB S = false) (hc : chk S.pc 4 = 0) : doC S b = (-1, S.on, b) := by
  subst hb
  unfold doC
  rw [if_neg (by simp [hi]), if_neg (by simp [hc])]
  show insP S b0 (decK (ld (mw []) S.pc 4 false)) (Tab.xs (Tab.sh (decK (ld (mw []) S.pc 4 false))) (ld (mw []) S.pc 4 false)).toNat (Tab.xt (Tab.sh (decK (ld (mw []) S.pc 4 false))) (ld (mw []) S.pc 4 false)).toNat (Tab.xd (Tab.sh (decK (ld (mw []) S.pc 4 false))) (ld (mw []) S.pc 4 false)).toNat (Tab.xm (Tab.sh (decK (ld (mw []) S.pc 4 false))) (ld (mw []) S.pc 4 false)) = _
  rw [ld_nil _ _ (by simp), show decK 0 = 1 by decide +kernel]
  rw [show (Tab.xs (Tab.sh 1) 0).toNat = 0 by decide +kernel, show (Tab.xt (Tab.sh 1) 0).toNat = 0 by decide +kernel, show (Tab.xd (Tab.sh 1) 0).toNat = 0 by decide +kernel, show Tab.xm (Tab.sh 1) 0 = 0 by decide +kernel]
  unfold insP
  rw [if_neg (by decide), if_neg (by decide), if_neg (by decide), if_neg (by decide)]
  unfold sumP
  rw [if_neg (by decide), if_neg (by decide), if_neg (by decide), if_neg (by decide), if_neg (by unfold overI; simp)]
  rfl
theorem wait_go (cm st : Int) (i : Nat) (hi : i ≤ 200) (h : intB (Wt cm st i) = false) : stepP (Wt cm st i) b0 = (-1, Wt cm st (i + 1), b0) := by
  have hd := nop_do (Wt cm st i) b0 rfl h (by
    show chk (1024 + 4 * (i : Int)) 4 = 0
    unfold chk
    rw [if_neg (by omega), if_neg (by omega), if_neg (by omega)])
  unfold stepP
  rw [hd]
  have e1 : Num.lo (1028 + 4 * (i : Int) + 4) = 1028 + 4 * ((i + 1 : Nat) : Int) := by unfold Num.lo; omega
  have e2 : (1028 + 4 * (i : Int)) = 1024 + 4 * ((i + 1 : Nat) : Int) := by omega
  have e3 : (i : Int) + 1 = ((i + 1 : Nat) : Int) := by omega
  show ((-1 : Int), ({ (St.new 1024) with pc := 1028 + 4 * (i : Int), nx := Num.lo (1028 + 4 * (i : Int) + 4), sl := false, cm := cm, st := st, ct := (i : Int) + 1 } : St), b0) = _
  rw [e1, e2, e3]
  rfl
theorem wait_due (cm : Int) (i : Nat) (h : intB (Wt cm 1 i) = true) : (stepP (Wt cm 1 i) b0).1 = 0 ∧ (stepP (Wt cm 1 i) b0).2.2 = b0 ∧ (stepP (Wt cm 1 i) b0).2.1.pc = 384 ∧ (stepP (Wt cm 1 i) b0).2.1.ca = 0 ∧ (stepP (Wt cm 1 i) b0).2.1.st = 3 ∧ (stepP (Wt cm 1 i) b0).2.1.ct = i + 1 := by
  have hd : doC (Wt cm 1 i) b0 = (0, Wt cm 1 i, b0) := by unfold doC; rw [if_pos h]
  have hx : exc1 (Wt cm 1 i) = { Wt cm 1 i with ep := (Wt cm 1 i).pc, ca := 0 } := by
    unfold exc1
    rw [if_pos (by show bits .and .u32 1 2 = 0; decide), if_neg (by show ¬ false = true; decide)]
  unfold stepP
  rw [hd]
  refine ⟨rfl, rfl, ?_, ?_, ?_, rfl⟩
  · show (if (0 : Int) = -1 then Wt cm 1 i else excP (Wt cm 1 i) 0).pc = 384
    rw [if_neg (by omega)]; rfl
  · show (if (0 : Int) = -1 then Wt cm 1 i else excP (Wt cm 1 i) 0).ca = 0
    rw [if_neg (by omega)]
    show bits .or .u32 (bits .andNot .u32 (exc1 (Wt cm 1 i)).ca 124) (sh4 0) = 0
    rw [hx]
    show bits .or .u32 (bits .andNot .u32 0 124) (sh4 0) = 0
    decide
  · show (if (0 : Int) = -1 then Wt cm 1 i else excP (Wt cm 1 i) 0).st = 3
    rw [if_neg (by omega)]
    show bits .or .u32 1 2 = 3
    decide
theorem and3 (st : Int) (h0 : 0 ≤ st) (h1 : st < 4) : bits .and .u32 st 3 = st := by
  have : st = 0 ∨ st = 1 ∨ st = 2 ∨ st = 3 := by omega
  rcases this with rfl | rfl | rfl | rfl <;> decide
theorem wait_int (cm st : Int) (i : Nat) (c0 : 0 ≤ cm) (h0 : 0 ≤ st) (h1 : st < 4) : intB (Wt cm st i) = decide (0 < cm ∧ cm ≤ i ∧ st = 1) := by
  unfold intB
  show (decide (cm ≠ 0) && decide (cm ≤ (i : Int)) && decide (bits .and .u32 st 3 = 1)) = _
  rw [and3 st h0 h1, Bool.eq_iff_iff]
  simp
  omega
theorem Wt_ok {cm st : Int} (hc : u32 cm) (hs : u32 st) (i : Nat) (hi : i ≤ 200) : (Wt cm st i).ok := by
  have o := St.new_ok (pc := 1024) ⟨by omega, by omega⟩
  exact ⟨o.r, o.hi, o.lo, ⟨by show (0:Int) ≤ 1024 + 4 * (i : Int); omega, by show 1024 + 4 * (i : Int) < _; omega⟩, ⟨by show (0:Int) ≤ 1028 + 4 * (i : Int); omega, by show 1028 + 4 * (i : Int) < _; omega⟩, hs, o.ca, o.ep, o.bd, hc, by show _ ≤ (i : Int); omega, by show (i : Int) < _; omega⟩
set_option maxRecDepth 100000 in
set_option maxHeartbeats 8000000 in
theorem waits_any (ps pa pf pk pn : Addr) {w : World} (E : Er ps pa pf w) (T : K.Tb pk pn w) (cm st0 n : Int) (c0 : 0 ≤ cm) (c1 : cm < 4294967296) (t0 : 0 ≤ st0) (t1 : st0 < 4294967296) :
    Calls Tryd.prog 5 #[.int .u32 cm, .int .u32 st0, .int .i64 n] w fun e w' => e = .returned (.bool true) ∧ Below w.heap.size w w' := by
  have hst := stepped_any ps pa pf pk pn E T
  have EH : Hid (Er ps pa pf w) := E
  have TH : Hid (K.Tb pk pn w) := T
  clear E T
  go_enter Tryd.func5, Tryd.ntmps5
  go_wp2_with fail
  refine hst.mono ?_
  rintro e w1 ⟨rfl, hb1⟩
  clear hst
  by_cases hn0 : n < 0
  · go_wp2
    go_ret
    exact ⟨rfl, hb1⟩
  by_cases hn1 : 200 < n
  · go_wp2
    go_ret
    exact ⟨rfl, hb1⟩
  by_cases hcm : 1048576 < cm
  · go_wp2
    go_ret
    exact ⟨rfl, hb1⟩
  have hn0' : 0 ≤ n := by omega
  have hn1' : n ≤ 200 := by omega
  have hcm' : cm ≤ 1048576 := by omega
  clear hn0 hn1 hcm
  have hs := newSt_any 1024 ⟨by omega, by omega⟩ w1
  go_wp2_with fail
  refine hs.mono ?_
  rintro e w2 ⟨sb, rfl, A2, b2, l2⟩
  have hb := newBus_all (words_nil w2) (by simp)
  clear hs
  go_wp2_with fail
  refine hb.mono ?_
  rintro e w3 ⟨bb, rb, bp, bw, bh, rfl, NB, b3, lb⟩
  clear hb
  have M3 : Hid (Mach w w3 w3.heap.size sb bb rb bp bw bh 64 (St.new 1024) b0 (.slice none 0 0) (.slice none 0 0)) := mach_new ⟨by omega, by omega⟩ (hb1.trans (b2.mono hb1.size)) A2 (Nat.le_trans hb1.size l2) NB b3 lb
  clear A2 b2 l2 NB b3 lb hb1
  have q41 : w3.cell? ⟨sb, 41, none⟩ = some (.int .u32 0) := M3.out.a.told.2.2.2.2.2.2.2.2.2.1
  have q37 : w3.cell? ⟨sb, 37, none⟩ = some (.int .u32 0) := M3.out.a.told.2.2.2.2.2.1
  have f41 := M3.out.a.fz 41
  have f37 := M3.out.a.fz 37
  have M5 : Hid (Mach w ((w3.setCell ⟨sb, 41, none⟩ (.int .u32 cm)).setCell ⟨sb, 37, none⟩ (.int .u32 (st0 % 4))) w3.heap.size sb bb rb bp bw bh 64 (Wt cm (st0 % 4) 0) b0 (.slice none 0 0) (.slice none 0 0)) :=
    M3.out.put ((M3.out.a.putCm cm).putSt (st0 % 4)) (Wt_ok ⟨c0, c1⟩ ⟨by omega, by omega⟩ 0 (by omega)) (((Kept.refl w3 _).put 41 _).put 37 _)
  clear M3
  generalize w3.heap.size = base at *
  go_wp2_with fail
  generalize (w3.setCell ⟨sb, 41, none⟩ (.int .u32 cm)).setCell ⟨sb, 37, none⟩ (.int .u32 (st0 % 4)) = w5 at *
  have hs0 : 0 ≤ st0 % 4 := by omega
  have hs1 : st0 % 4 < 4 := by omega
  generalize st0 % 4 = st at *
  clear q41 q37 f41 f37
  go_loopw [10] (fun iv wr => ∃ (j N : Nat) (vo vt : Value), (j : Int) ≤ n ∧ N ≤ 64 + 2 * j ∧ iv = .int .i64 j ∧ Mach w wr base sb bb rb bp bw bh N (Wt cm st j) b0 vo vt) (fun iv _ => n.toNat - (intOf iv).toNat)
  case atStart => exact ⟨0, 64, _, _, by omega, by omega, rfl, M5.out⟩
  case round =>
    clear M5
    obtain ⟨j, N, vo, vt, hj, hN, rfl, M⟩ := hrel
    have MH : Hid (Mach w wr base sb bb rb bp bw bh N (Wt cm st j) b0 vo vt) := M
    have q34 : wr.cell? ⟨sb, 34, none⟩ = some (.int .u32 (1024 + 4 * (j : Int))) := M.a.told.2.2.1
    have q37 : wr.cell? ⟨sb, 37, none⟩ = some (.int .u32 st) := M.a.told.2.2.2.2.2.1
    have q42 : wr.cell? ⟨sb, 42, none⟩ = some (.int .i64 j) := M.a.told.2.2.2.2.2.2.2.2.2.2
    by_cases hlt : (j : Int) < n
    · have hs := step_any ps pa pf pk pn EH.out TH.out M (by simp [b0]) (by simp [b0]) (by unfold maxLen; omega) (by show (j : Int) + 1 < _; omega)
      have hint := wait_int cm st j c0 hs0 hs1
      clear M
      by_cases hdue : 0 < cm ∧ cm ≤ (j : Int) ∧ st = 1
      · obtain ⟨d1, d2, d3⟩ := hdue
        subst d3
        have hi : intB (Wt cm 1 j) = true := by rw [hint]; simp [d1, d2]
        obtain ⟨e1, e2, e3, e4, e5, e6⟩ := wait_due cm j hi
        rw [e1, e2] at hs
        have d2' : decide (cm ≤ (j : Int)) = true := by simpa using d2
        go_wp2_with fail
        refine hs.mono ?_
        rintro e w2 ⟨rfl, N', vo', vt', hN', M2, K2, _, _⟩
        have x34 := M2.a.told.2.2.1
        have x38 := M2.a.told.2.2.2.2.2.2.1
        have x37 := M2.a.told.2.2.2.2.2.1
        have x42 := M2.a.told.2.2.2.2.2.2.2.2.2.2
        rw [e3] at x34
        rw [e4] at x38
        rw [e5] at x37
        rw [e6] at x42
        have be := M2.be
        clear hs M2 K2 e1 e2 e3 e4 e5 e6 hint hi q34 q37 q42
        go_wp2
        go_ret
        exact ⟨rfl, be⟩
      · have hi : intB (Wt cm st j) = false := by rw [hint]; simpa using hdue
        rw [wait_go cm st j (by omega) hi] at hs
        clear hint hi
        by_cases d1 : 0 < cm
        · by_cases d2 : cm ≤ (j : Int)
          · have d3 : (st == 1) = false := by simp; omega
            have d2' : decide (cm ≤ (j : Int)) = true := by simpa using d2
            clear hdue
            go_wp2_with fail
            refine hs.mono ?_
            rintro e w2 ⟨rfl, N', vo', vt', hN', M2, K2, _, _⟩
            clear hs K2
            go_wp2
            go_roundw
            case rel => exact ⟨j + 1, N', vo', vt', by omega, by omega, by go_num, M2⟩
            case measure => simp [intOf]; omega
          · have d2' : decide (cm ≤ (j : Int)) = false := by simpa using d2
            clear hdue
            go_wp2_with fail
            refine hs.mono ?_
            rintro e w2 ⟨rfl, N', vo', vt', hN', M2, K2, _, _⟩
            clear hs K2
            go_wp2
            go_roundw
            case rel => exact ⟨j + 1, N', vo', vt', by omega, by omega, by go_num, M2⟩
            case measure => simp [intOf]; omega
        · clear hdue
          go_wp2_with fail
          refine hs.mono ?_
          rintro e w2 ⟨rfl, N', vo', vt', hN', M2, K2, _, _⟩
          clear hs K2
          go_wp2
          go_roundw
          case rel => exact ⟨j + 1, N', vo', vt', by omega, by omega, by go_num, M2⟩
          case measure => simp [intOf]; omega
    · have hjn : (j : Int) = n := by omega
      have be := M.be
      subst hjn
      clear M MH
      go_wp2
      go_ret
      refine ⟨?_, be⟩
      rfl
end Go.Proofs.YtckcbnfobjmhpaaDoor
