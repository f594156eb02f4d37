/-
  TextOf at an Imm below 32768.
-/
import Derived.Test.YtccnliihdhnckaaGreatDoorTextOf
namespace Go.Proofs.YtccnliihdhnckaaGreatDoor
open Go.RowKit Go.Shelf Go.Joins
open Num Tab Fm Txt
set_option linter.unusedVariables false
set_option maxRecDepth 100000 in
set_option maxHeartbeats 8000000 in
theorem textOf_lo (k : Nat) (h1 : 1 ≤ k) (hk : k < 54) (s t d m : Int) (ok : okB (sh k) s t d m = true) (m0 : 0 ≤ m) (hm : m < 32768) (w : World) :
    Calls Tryz.prog 12 #[ins k s t d m] w fun e w' => e = .returned (.string ⟨(ptext k ⟨s, t, d, m⟩).toArray⟩) ∧ Below w.heap.size w w' := by
  have hok : okF k ⟨s, t, d, m⟩ := ⟨ok, m0⟩
  have HX : Hid (nme k ++ rj ⟨s, t, d, m⟩ true (ordr k) = ptext k ⟨s, t, d, m⟩) := rtext_eq k hk _ hok
  obtain ⟨w1, w2, w3, w4, -⟩ := ok_parts k _ hok
  have S0 : 0 ≤ s ∧ s < 32 := by rcases well_of w1 with h | h <;> simp only at h <;> omega
  have T0 : 0 ≤ t ∧ t < 32 := by rcases well_of w2 with h | h <;> simp only at h <;> omega
  have D0 : 0 ≤ d ∧ d < 32 := by rcases well_of w3 with h | h <;> simp only at h <;> omega
  have M1 : m < 67108864 := by
    have : top (sh k) ≤ 67108863 := by
      have : ∀ k, k < 54 → top (sh k) ≤ 67108863 := by decide
      exact this k hk
    simp only at w4; omega
  have HL : Hid (∀ x, (x = s ∨ x = t ∨ x = d ∨ x = m ∨ x = i16 m) → (Lib.itoa x).length ≤ 21) := by
    intro x hx
    have : i16 m = m ∨ i16 m = m - 65536 := by unfold i16; split <;> simp
    exact Lib.itoa_length_le x (by omega) (by omega)
  clear ok hok w1 w2 w3 w4
  obtain ⟨s0, s1⟩ := S0
  obtain ⟨t0, t1⟩ := T0
  obtain ⟨d0, d1⟩ := D0
  have hA : Below w.heap.size w (w.alloc (.cells #[.int .i64 k, .int .i64 s, .int .i64 t, .int .i64 d, .int .u32 m] 24)) := (Below.refl _ _).alloc (Nat.le_refl _) _
  have k0 : 1 ≤ (k : Int) := by omega
  have k1 : (k : Int) < 54 := by omega
  go_enter Tryz.func12, Tryz.ntmps12
  go_wp2_with fail
  refine (rowOf_in k k0 k1 _).mono ?_
  rintro e w1 ⟨rfl, hb1⟩
  have hc1 : w1.cell? ⟨w.heap.size, 1, none⟩ = some (.int .i64 s) := cell_stays hb1 (Nat.le_refl _) (by simp)
  have hc2 : w1.cell? ⟨w.heap.size, 2, none⟩ = some (.int .i64 t) := cell_stays hb1 (Nat.le_refl _) (by simp)
  have hc3 : w1.cell? ⟨w.heap.size, 3, none⟩ = some (.int .i64 d) := cell_stays hb1 (Nat.le_refl _) (by simp)
  have hc4 : w1.cell? ⟨w.heap.size, 4, none⟩ = some (.int .u32 m) := cell_stays hb1 (Nat.le_refl _) (by simp)
  have hz1 : w.heap.size < w1.heap.size := by have := hb1.size; simp at this; omega
  have hb2 : Below w.heap.size w w1 := hA.trans (hb1.mono (by simp))
  have HI : Hid (i16 m = if m < 32768 then m else m - 65536) := rfl
  have HM : Hid (i16 m = m) := by show i16 m = _; unfold i16; rw [if_pos hm]
  have hm' : ¬ 32768 ≤ m := by omega
  go_wp2_with fail
  go_loopw [4, 6] (fun a c wr => ∃ j : Nat, j ≤ (ordr k).length ∧ a = .string ⟨(nme k ++ rj ⟨s, t, d, m⟩ true ((ordr k).take j)).toArray⟩ ∧ c = .int .i64 j ∧ RInv w.heap.size w1.heap.size wr k s t d m ∧ Below w.heap.size w wr) (fun _ c _ => (ordr k).length - (intOf c).toNat)
  case atStart =>
    refine ⟨0, Nat.zero_le _, by simp [rj], rfl, ⟨?_, ?_, ?_, ?_, by simp⟩, hb2.alloc hb2.size _⟩
    · rw [World.cell?_alloc_lt _ _ _ hz1]; exact hc1
    · rw [World.cell?_alloc_lt _ _ _ hz1]; exact hc2
    · rw [World.cell?_alloc_lt _ _ _ hz1]; exact hc3
    · rw [World.cell?_alloc_lt _ _ _ hz1]; exact hc4
  case round =>
    obtain ⟨j, hj, rfl, rfl, E, hbel⟩ := hrel
    have hr4 := E.r4
    by_cases hlt : j < (ordr k).length
    · have hlt' : (j : Int) < (ordr k).length := by omega
      have j0 : (0 : Int) ≤ j := by omega
      have j3 : (j : Int) < 3 := by have := ord_cases k hk; omega
      have hal : (nme k ++ rj ⟨s, t, d, m⟩ true ((ordr k).take j)).length ≤ 1000 := by
        have a1 := rj_len ⟨s, t, d, m⟩ HL.out ((ordr k).take j) true
        have a2 := form_len k hk
        have a3 := ord_cases k hk
        rw [List.length_append]
        rw [List.length_take] at a1
        omega
      have HS : Hid (nme k ++ rj ⟨s, t, d, m⟩ true ((ordr k).take (j + 1)) = (nme k ++ rj ⟨s, t, d, m⟩ true ((ordr k).take j)) ++ (sep (decide (j = 0)) ++ rpc ⟨s, t, d, m⟩ (ordr k)[j])) := by
        show _ = _
        rw [rj_take _ _ _ hlt, List.append_assoc]
      have hidx : ∀ h, (⟨(ordr k).toArray⟩ : ByteArray)[j]'h = (ordr k)[j] := fun _ => rfl
      have ho : ordB (ordr k)[j] = true := List.all_eq_true.mp (ordr_ok k hk) _ (List.getElem_mem hlt)
      generalize nme k ++ rj ⟨s, t, d, m⟩ true ((ordr k).take j) = A at HS hal ⊢
      obtain ⟨c1, c2, c3, c4, c5⟩ := E
      have E : RInv w.heap.size w1.heap.size wr k s t d m := ⟨c1, c2, c3, c4, c5⟩
      have L1 : (Lib.itoa s).length ≤ 21 := HL.out s (by simp)
      have L2 : (Lib.itoa t).length ≤ 21 := HL.out t (by simp)
      have L3 : (Lib.itoa d).length ≤ 21 := HL.out d (by simp)
      have L4 : (Lib.itoa m).length ≤ 21 := HL.out m (by simp)
      have L5 : (Lib.itoa m).length ≤ 21 := HL.out m (Or.inr (Or.inr (Or.inr (Or.inr HM.out.symm))))
      have hsep : ∃ b, decide (j = 0) = b := ⟨_, rfl⟩
      obtain ⟨b, hsep⟩ := hsep
      rw [hsep] at HS
      have hjt : ((j : Int) == 0) = b := by rw [← hsep, Bool.eq_iff_iff]; simp
      clear hsep
      cases b with
      | true =>
        have hadd1 := run_add A [32] (by simp; omega)
        have hal2 : (A ++ [32]).length ≤ 1002 := by simp; omega
        rw [show sep true = [32] from rfl, ← List.append_assoc] at HS
        generalize A ++ [32] = A2 at hadd1 hal2 HS
        rcases ord_of (f := ⟨s, t, d, m⟩) ho with ⟨q1, HO⟩ | ⟨q1, q2, HO⟩ | ⟨q1, q2, q3, HO⟩ | ⟨q1, q2, q3, q4, HO⟩ | ⟨q1, q2, q3, q4, q5, HO⟩ | ⟨q1, q2, q3, q4, q5, HO⟩
        · have hadd2 := run_add A2 (36 :: Lib.itoa s) (by simp; omega)
          go_wp2_with (go_at_call 38; refine (regT_any s (by omega) (by omega) _).mono ?_; rintro e w2 ⟨rfl, hb2⟩)
          refine ⟨⟨j + 1, by omega, ?_, by first | go_num | exact one_of hjt, E.grow hb2, hbel.trans (hb2.mono hbel.size)⟩, ?_⟩
          · rw [HS.out, HO.out]
          · first | (simp [intOf]; omega) | (have h0 : j = 0 := by simpa using hjt
                                             subst h0; simp [intOf]; omega)
        · have hadd2 := run_add A2 (36 :: Lib.itoa t) (by simp; omega)
          go_wp2_with (go_at_call 38; refine (regT_any t (by omega) (by omega) _).mono ?_; rintro e w2 ⟨rfl, hb2⟩)
          refine ⟨⟨j + 1, by omega, ?_, by first | go_num | exact one_of hjt, E.grow hb2, hbel.trans (hb2.mono hbel.size)⟩, ?_⟩
          · rw [HS.out, HO.out]
          · first | (simp [intOf]; omega) | (have h0 : j = 0 := by simpa using hjt
                                             subst h0; simp [intOf]; omega)
        · have hadd2 := run_add A2 (36 :: Lib.itoa d) (by simp; omega)
          go_wp2_with (go_at_call 38; refine (regT_any d (by omega) (by omega) _).mono ?_; rintro e w2 ⟨rfl, hb2⟩)
          refine ⟨⟨j + 1, by omega, ?_, by first | go_num | exact one_of hjt, E.grow hb2, hbel.trans (hb2.mono hbel.size)⟩, ?_⟩
          · rw [HS.out, HO.out]
          · first | (simp [intOf]; omega) | (have h0 : j = 0 := by simpa using hjt
                                             subst h0; simp [intOf]; omega)
        · have hadd2 := run_add A2 (Lib.itoa m) (by omega)
          go_wp2_with (go_at_call 21; refine (decimal_any m (by omega) (by omega) _).mono ?_; rintro e w2 ⟨rfl, hb2⟩)
          refine ⟨⟨j + 1, by omega, ?_, by first | go_num | exact one_of hjt, E.grow hb2, hbel.trans (hb2.mono hbel.size)⟩, ?_⟩
          · rw [HS.out, HO.out]; show _ = Value.string ⟨(A2 ++ Lib.itoa (i16 m)).toArray⟩; rw [HM.out]
          · first | (simp [intOf]; omega) | (have h0 : j = 0 := by simpa using hjt
                                             subst h0; simp [intOf]; omega)
        · have hadd2 := run_add A2 (Lib.itoa m) (by omega)
          have hadd3 := run_add (A2 ++ Lib.itoa m) [40] (by simp; omega)
          have hadd4 := run_add (A2 ++ Lib.itoa m ++ [40]) (36 :: Lib.itoa s) (by simp; omega)
          have hadd5 := run_add (A2 ++ Lib.itoa m ++ [40] ++ (36 :: Lib.itoa s)) [41] (by simp; omega)
          have HQ : Hid (A2 ++ rpc ⟨s, t, d, m⟩ (ordr k)[j] = A2 ++ Lib.itoa m ++ [40] ++ (36 :: Lib.itoa s) ++ [41]) := by
            show _ = _
            rw [HO.out]; show A2 ++ (Lib.itoa (i16 m) ++ [40] ++ (36 :: Lib.itoa s) ++ [41]) = _; rw [HM.out]; simp only [List.append_assoc]
          generalize A2 ++ Lib.itoa m ++ [40] ++ (36 :: Lib.itoa s) ++ [41] = A6 at hadd5 HQ
          generalize A2 ++ Lib.itoa m ++ [40] ++ (36 :: Lib.itoa s) = A5 at hadd4 hadd5
          generalize A2 ++ Lib.itoa m ++ [40] = A4 at hadd3 hadd4
          generalize A2 ++ Lib.itoa m = A3 at hadd2 hadd3
          have kS := cell_regrown c1
          have cD : ∀ d os, Calls Tryz.prog 21 #[.int .i64 m] (Sort.grow (redrawn wr d) os) fun e w'' => e = .returned (.string ⟨(Lib.itoa m).toArray⟩) ∧ ∃ p : Regrown, w'' = Sort.grow (redrawn wr p.d) p.os := fun d os => Calls.regrown_of (decimal_any m (by omega) (by omega) _)
          have cR : ∀ d os, Calls Tryz.prog 38 #[.int .i64 s] (Sort.grow (redrawn wr d) os) fun e w'' => e = .returned (.string ⟨(36 :: Lib.itoa s).toArray⟩) ∧ ∃ p : Regrown, w'' = Sort.grow (redrawn wr p.d) p.os := fun d os => Calls.regrown_of (regT_any s (by omega) (by omega) _)
          go_wp2_with fail
          refine wp_region_quiet_below (by kernel_rfl) (by kernel_rfl) ?_
          repeat (quiet_step (first | exact cD _ _ | exact cR _ _))
          refine wpQuiet_nil ?_
          intro w2 hw'
          obtain ⟨⟨dq, osq⟩, hw''⟩ := hw'
          have hb2 : Below wr.heap.size wr w2 := by rw [hw'']; exact below_regrown wr dq osq
          clear hw''
          go_wp2
          refine ⟨⟨j + 1, by omega, ?_, by first | go_num | exact one_of hjt, E.grow hb2, hbel.trans (hb2.mono hbel.size)⟩, ?_⟩
          · rw [HS.out, HQ.out]
          · first | (simp [intOf]; omega) | (have h0 : j = 0 := by simpa using hjt
                                             subst h0; simp [intOf]; omega)
        · have hadd2 := run_add A2 (Lib.itoa m) (by omega)
          go_wp2_with (go_at_call 21; refine (decimal_any m (by omega) (by omega) _).mono ?_; rintro e w2 ⟨rfl, hb2⟩)
          refine ⟨⟨j + 1, by omega, ?_, by first | go_num | exact one_of hjt, E.grow hb2, hbel.trans (hb2.mono hbel.size)⟩, ?_⟩
          · rw [HS.out, HO.out]
          · first | (simp [intOf]; omega) | (have h0 : j = 0 := by simpa using hjt
                                             subst h0; simp [intOf]; omega)
      | false =>
        have hadd1 := run_add A [44, 32] (by simp; omega)
        have hal2 : (A ++ [44, 32]).length ≤ 1002 := by simp; omega
        rw [show sep false = [44, 32] from rfl, ← List.append_assoc] at HS
        generalize A ++ [44, 32] = A2 at hadd1 hal2 HS
        rcases ord_of (f := ⟨s, t, d, m⟩) ho with ⟨q1, HO⟩ | ⟨q1, q2, HO⟩ | ⟨q1, q2, q3, HO⟩ | ⟨q1, q2, q3, q4, HO⟩ | ⟨q1, q2, q3, q4, q5, HO⟩ | ⟨q1, q2, q3, q4, q5, HO⟩
        · have hadd2 := run_add A2 (36 :: Lib.itoa s) (by simp; omega)
          go_wp2_with (go_at_call 38; refine (regT_any s (by omega) (by omega) _).mono ?_; rintro e w2 ⟨rfl, hb2⟩)
          refine ⟨⟨j + 1, by omega, ?_, by first | go_num | exact one_of hjt, E.grow hb2, hbel.trans (hb2.mono hbel.size)⟩, ?_⟩
          · rw [HS.out, HO.out]
          · first | (simp [intOf]; omega) | (have h0 : j = 0 := by simpa using hjt
                                             subst h0; simp [intOf]; omega)
        · have hadd2 := run_add A2 (36 :: Lib.itoa t) (by simp; omega)
          go_wp2_with (go_at_call 38; refine (regT_any t (by omega) (by omega) _).mono ?_; rintro e w2 ⟨rfl, hb2⟩)
          refine ⟨⟨j + 1, by omega, ?_, by first | go_num | exact one_of hjt, E.grow hb2, hbel.trans (hb2.mono hbel.size)⟩, ?_⟩
          · rw [HS.out, HO.out]
          · first | (simp [intOf]; omega) | (have h0 : j = 0 := by simpa using hjt
                                             subst h0; simp [intOf]; omega)
        · have hadd2 := run_add A2 (36 :: Lib.itoa d) (by simp; omega)
          go_wp2_with (go_at_call 38; refine (regT_any d (by omega) (by omega) _).mono ?_; rintro e w2 ⟨rfl, hb2⟩)
          refine ⟨⟨j + 1, by omega, ?_, by first | go_num | exact one_of hjt, E.grow hb2, hbel.trans (hb2.mono hbel.size)⟩, ?_⟩
          · rw [HS.out, HO.out]
          · first | (simp [intOf]; omega) | (have h0 : j = 0 := by simpa using hjt
                                             subst h0; simp [intOf]; omega)
        · have hadd2 := run_add A2 (Lib.itoa m) (by omega)
          go_wp2_with (go_at_call 21; refine (decimal_any m (by omega) (by omega) _).mono ?_; rintro e w2 ⟨rfl, hb2⟩)
          refine ⟨⟨j + 1, by omega, ?_, by first | go_num | exact one_of hjt, E.grow hb2, hbel.trans (hb2.mono hbel.size)⟩, ?_⟩
          · rw [HS.out, HO.out]; show _ = Value.string ⟨(A2 ++ Lib.itoa (i16 m)).toArray⟩; rw [HM.out]
          · first | (simp [intOf]; omega) | (have h0 : j = 0 := by simpa using hjt
                                             subst h0; simp [intOf]; omega)
        · have hadd2 := run_add A2 (Lib.itoa m) (by omega)
          have hadd3 := run_add (A2 ++ Lib.itoa m) [40] (by simp; omega)
          have hadd4 := run_add (A2 ++ Lib.itoa m ++ [40]) (36 :: Lib.itoa s) (by simp; omega)
          have hadd5 := run_add (A2 ++ Lib.itoa m ++ [40] ++ (36 :: Lib.itoa s)) [41] (by simp; omega)
          have HQ : Hid (A2 ++ rpc ⟨s, t, d, m⟩ (ordr k)[j] = A2 ++ Lib.itoa m ++ [40] ++ (36 :: Lib.itoa s) ++ [41]) := by
            show _ = _
            rw [HO.out]; show A2 ++ (Lib.itoa (i16 m) ++ [40] ++ (36 :: Lib.itoa s) ++ [41]) = _; rw [HM.out]; simp only [List.append_assoc]
          generalize A2 ++ Lib.itoa m ++ [40] ++ (36 :: Lib.itoa s) ++ [41] = A6 at hadd5 HQ
          generalize A2 ++ Lib.itoa m ++ [40] ++ (36 :: Lib.itoa s) = A5 at hadd4 hadd5
          generalize A2 ++ Lib.itoa m ++ [40] = A4 at hadd3 hadd4
          generalize A2 ++ Lib.itoa m = A3 at hadd2 hadd3
          have kS := cell_regrown c1
          have cD : ∀ d os, Calls Tryz.prog 21 #[.int .i64 m] (Sort.grow (redrawn wr d) os) fun e w'' => e = .returned (.string ⟨(Lib.itoa m).toArray⟩) ∧ ∃ p : Regrown, w'' = Sort.grow (redrawn wr p.d) p.os := fun d os => Calls.regrown_of (decimal_any m (by omega) (by omega) _)
          have cR : ∀ d os, Calls Tryz.prog 38 #[.int .i64 s] (Sort.grow (redrawn wr d) os) fun e w'' => e = .returned (.string ⟨(36 :: Lib.itoa s).toArray⟩) ∧ ∃ p : Regrown, w'' = Sort.grow (redrawn wr p.d) p.os := fun d os => Calls.regrown_of (regT_any s (by omega) (by omega) _)
          go_wp2_with fail
          refine wp_region_quiet_below (by kernel_rfl) (by kernel_rfl) ?_
          repeat (quiet_step (first | exact cD _ _ | exact cR _ _))
          refine wpQuiet_nil ?_
          intro w2 hw'
          obtain ⟨⟨dq, osq⟩, hw''⟩ := hw'
          have hb2 : Below wr.heap.size wr w2 := by rw [hw'']; exact below_regrown wr dq osq
          clear hw''
          go_wp2
          refine ⟨⟨j + 1, by omega, ?_, by first | go_num | exact one_of hjt, E.grow hb2, hbel.trans (hb2.mono hbel.size)⟩, ?_⟩
          · rw [HS.out, HQ.out]
          · first | (simp [intOf]; omega) | (have h0 : j = 0 := by simpa using hjt
                                             subst h0; simp [intOf]; omega)
        · have hadd2 := run_add A2 (Lib.itoa m) (by omega)
          go_wp2_with (go_at_call 21; refine (decimal_any m (by omega) (by omega) _).mono ?_; rintro e w2 ⟨rfl, hb2⟩)
          refine ⟨⟨j + 1, by omega, ?_, by first | go_num | exact one_of hjt, E.grow hb2, hbel.trans (hb2.mono hbel.size)⟩, ?_⟩
          · rw [HS.out, HO.out]
          · first | (simp [intOf]; omega) | (have h0 : j = 0 := by simpa using hjt
                                             subst h0; simp [intOf]; omega)
    · obtain rfl : j = (ordr k).length := by omega
      have hlt' : ¬ ((ordr k).length : Int) < (ordr k).length := by omega
      go_wp2
      go_ret
      refine ⟨?_, hbel⟩
      rw [← HX.out]; rfl
end Go.Proofs.YtccnliihdhnckaaGreatDoor
