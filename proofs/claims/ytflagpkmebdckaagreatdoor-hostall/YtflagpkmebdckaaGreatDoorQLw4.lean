/-
  The result of an instruction: its ops.
-/
import Derived.Test.YtflagpkmebdckaaGreatDoorKKDecode
namespace Go.Proofs.YtflagpkmebdckaaGreatDoor.Low
open Go.RowKit Go.Maps
open Num
set_option linter.unusedVariables false
section
variable {w0 w : World} {lb : Nat} {pc many at_ : Int} {l : List Opx} {v : Value}
set_option maxRecDepth 100000 in
set_option maxHeartbeats 8000000 in
theorem result_any (F : LAt w0 w lb pc many at_ l v) (hn : l.length ≤ 900) (k : Nat) (s t d m : Int) (m0 : 0 ≤ m) (m1 : m < 4294967296) :
    Calls Tryz.prog 179 #[.pointer (some ⟨lb, 0, none⟩), .agg #[.int .i64 k, .int .i64 s, .int .i64 t, .int .i64 d, .int .u32 m]] w (LP w0 w lb pc many at_ (l ++ resL ⟨k, s, t, d, m⟩ at_) v) := by
  have B : Hid _ := LB.start F k s t d m
  clear F
  have hop := fun W => operandsL_any (w := W) k s t d m
  have hov := fun W => overOf_any (w := W) k
  have hki := fun W => kindOfL_any (w := W) k
  have him := fun W => immC_any (w := W) k s t d m m0 m1
  have hR : resL ⟨k, s, t, d, m⟩ at_ = if oD k ⟨k, s, t, d, m⟩ = 0 ∧ ovK k = 0 then [] else
    (if oB k ⟨k, s, t, d, m⟩ = 34 then [opx 1 34 0 0 (immI k m) at_] else []) ++ (if ovK k = 0 then [] else [opx (ovK k) 0 (oA k ⟨k, s, t, d, m⟩) (oB k ⟨k, s, t, d, m⟩) 0 at_]) ++ wrO (opx (rsK k) (oD k ⟨k, s, t, d, m⟩) (oA k ⟨k, s, t, d, m⟩) (oB k ⟨k, s, t, d, m⟩) 0 at_) := rfl
  rw [hR]
  clear hR
  have hvc : ovK k = 0 ∨ ovK k = 21 ∨ ovK k = 22 := by
    unfold ovK
    repeat (first | (split; · omega) | omega)
  have hvs : (kindS (ovK k)).data.toList = kinds.getD (ovK k) [] := by unfold kindS; rfl
  unfold opx
  generalize oD k ⟨k, s, t, d, m⟩ = D at *
  generalize oA k ⟨k, s, t, d, m⟩ = A at *
  generalize oB k ⟨k, s, t, d, m⟩ = G at *
  generalize immI k m = im at *
  generalize kindS (rsK k) = rs at *
  generalize kindS (ovK k) = os at *
  generalize ovK k = vk at *
  by_cases hv : vk = 0
  · rw [hv] at hvs ⊢
    have hos : os = ⟨#[]⟩ := by obtain ⟨⟨x⟩⟩ := os; simp [kinds] at hvs; simp [hvs]
    subst hos
    clear hvs hvc hv
    simp only [if_true, and_true, List.append_nil]
    by_cases hD : D = 0
    · subst hD
      simp only [if_true, List.append_nil]
      go_enter Tryz.func179, Tryz.ntmps179
      go_upto_region 1 with fail
      generalize hW : w.alloc (.cells #[.int .i64 k, .int .i64 s, .int .i64 t, .int .i64 d, .int .u32 m] 113) = W at B ⊢
      generalize hib : w.heap.size = ib at B ⊢
      clear hW hib
      have c0 := B.out.c0; have c1 := B.out.c1; have c2 := B.out.c2; have c3 := B.out.c3; have c4 := B.out.c4
      go_wp2_with fail
      refine (hop _).mono ?_
      rintro e W1 ⟨rfl, hb⟩
      have B1 : Hid _ := B.out.pure hb
      clear c0 c1 c2 c3 c4 hb B
      have B : Hid _ := B1.out
      clear B1
      have c0 := B.out.c0; have c1 := B.out.c1; have c2 := B.out.c2; have c3 := B.out.c3; have c4 := B.out.c4
      go_wp2_with fail
      refine (hov _).mono ?_
      rintro e W2 ⟨rfl, hb⟩
      rw [hb]; clear hb
      clear c0 c1 c2 c3 c4
      go_wp2
      go_end0
      exact B.out.done
    · have hD' : (D == 0) = false := by simpa using hD
      rw [if_neg hD]
      by_cases hG : G = 34
      · subst hG
        rw [if_pos rfl]
        go_enter Tryz.func179, Tryz.ntmps179
        go_upto_region 1 with fail
        generalize hW : w.alloc (.cells #[.int .i64 k, .int .i64 s, .int .i64 t, .int .i64 d, .int .u32 m] 113) = W at B ⊢
        generalize hib : w.heap.size = ib at B ⊢
        clear hW hib
        have c0 := B.out.c0; have c1 := B.out.c1; have c2 := B.out.c2; have c3 := B.out.c3; have c4 := B.out.c4
        go_wp2_with fail
        refine (hop _).mono ?_
        rintro e W1 ⟨rfl, hb⟩
        have B1 : Hid _ := B.out.pure hb
        clear c0 c1 c2 c3 c4 hb B
        have B : Hid _ := B1.out
        clear B1
        have c0 := B.out.c0; have c1 := B.out.c1; have c2 := B.out.c2; have c3 := B.out.c3; have c4 := B.out.c4
        go_wp2_with fail
        refine (hov _).mono ?_
        rintro e W2 ⟨rfl, hb⟩
        rw [hb]; clear hb
        go_wp2_with fail
        refine (him _).mono ?_
        rintro e W3 ⟨rfl, hb⟩
        have B3 : Hid _ := B.out.pure hb
        clear c0 c1 c2 c3 c4 hb B
        have B : Hid _ := B3.out
        clear B3
        have c0 := B.out.c0; have c1 := B.out.c1; have c2 := B.out.c2; have c3 := B.out.c3; have c4 := B.out.c4
        go_wp2_with fail
        refine (write_any B.out.f (by omega) ⟨#[115, 101, 116]⟩ 34 0 0 im 0).mono ?_
        rintro e W4 ⟨rfl, v4, F4, L4⟩
        have B4 : Hid _ := B.out.add F4 L4
        clear c0 c1 c2 c3 c4 B F4 L4
        have B : Hid _ := B4.out
        clear B4
        have c0 := B.out.c0; have c1 := B.out.c1; have c2 := B.out.c2; have c3 := B.out.c3; have c4 := B.out.c4
        go_wp2_with fail
        refine (hki _).mono ?_
        rintro e W5 ⟨rfl, hb⟩
        rw [hb]; clear hb
        go_wp2_with fail
        refine (write_any B.out.f (by simp [wrO]; omega) rs D A 34 0 0).mono ?_
        rintro e W6 ⟨rfl, v6, F6, L6⟩
        have B6 : Hid _ := B.out.add F6 L6
        clear c0 c1 c2 c3 c4 B F6 L6
        have B : Hid _ := B6.out
        clear B6
        have c0 := B.out.c0; have c1 := B.out.c1; have c2 := B.out.c2; have c3 := B.out.c3; have c4 := B.out.c4
        clear c0 c1 c2 c3 c4
        go_wp2
        go_end0
        have := B.out.done
        rw [List.append_assoc] at this; exact this
      · have hG' : (G == 34) = false := by simpa using hG
        rw [if_neg hG, List.nil_append]
        go_enter Tryz.func179, Tryz.ntmps179
        go_upto_region 1 with fail
        generalize hW : w.alloc (.cells #[.int .i64 k, .int .i64 s, .int .i64 t, .int .i64 d, .int .u32 m] 113) = W at B ⊢
        generalize hib : w.heap.size = ib at B ⊢
        clear hW hib
        have c0 := B.out.c0; have c1 := B.out.c1; have c2 := B.out.c2; have c3 := B.out.c3; have c4 := B.out.c4
        go_wp2_with fail
        refine (hop _).mono ?_
        rintro e W1 ⟨rfl, hb⟩
        have B1 : Hid _ := B.out.pure hb
        clear c0 c1 c2 c3 c4 hb B
        have B : Hid _ := B1.out
        clear B1
        have c0 := B.out.c0; have c1 := B.out.c1; have c2 := B.out.c2; have c3 := B.out.c3; have c4 := B.out.c4
        go_wp2_with fail
        refine (hov _).mono ?_
        rintro e W2 ⟨rfl, hb⟩
        rw [hb]; clear hb
        go_wp2_with fail
        refine (hki _).mono ?_
        rintro e W5 ⟨rfl, hb⟩
        rw [hb]; clear hb
        go_wp2_with fail
        refine (write_any B.out.f (by omega) rs D A G 0 0).mono ?_
        rintro e W6 ⟨rfl, v6, F6, L6⟩
        have B6 : Hid _ := B.out.add F6 L6
        clear c0 c1 c2 c3 c4 B F6 L6
        have B : Hid _ := B6.out
        clear B6
        have c0 := B.out.c0; have c1 := B.out.c1; have c2 := B.out.c2; have c3 := B.out.c3; have c4 := B.out.c4
        clear c0 c1 c2 c3 c4
        go_wp2
        go_end0
        exact B.out.done
  · rw [if_neg (by omega)]
    simp only [if_neg hv]
    have hos : os.toList.isEmpty = false ∧ (os.toList == []) = false := by
      have h2 : ∀ x : ByteArray, x.data.toList = kinds.getD 21 [] ∨ x.data.toList = kinds.getD 22 [] → x.toList.isEmpty = false ∧ (x.toList == []) = false := by
        rintro ⟨⟨x⟩⟩ h
        simp only at h
        rw [ByteArray.toList_eq]
        rcases h with h | h <;> (subst h; decide)
      refine h2 os ?_
      rcases hvc with h | h | h
      · exact absurd h hv
      · rw [hvs, h]; exact .inl rfl
      · rw [hvs, h]; exact .inr rfl
    obtain ⟨hos1, hos2⟩ := hos
    have hdx : (D == 0) = true ∨ (D == 0) = false := by cases (D == 0) <;> simp
    clear hvs hvc
    by_cases hG : G = 34
    · subst hG
      rw [if_pos rfl]
      rcases hdx with hD | hD
      · go_enter Tryz.func179, Tryz.ntmps179
        go_upto_region 1 with fail
        generalize hW : w.alloc (.cells #[.int .i64 k, .int .i64 s, .int .i64 t, .int .i64 d, .int .u32 m] 113) = W at B ⊢
        generalize hib : w.heap.size = ib at B ⊢
        clear hW hib
        have c0 := B.out.c0; have c1 := B.out.c1; have c2 := B.out.c2; have c3 := B.out.c3; have c4 := B.out.c4
        go_wp2_with fail
        refine (hop _).mono ?_
        rintro e W1 ⟨rfl, hb⟩
        have B1 : Hid _ := B.out.pure hb
        clear c0 c1 c2 c3 c4 hb B
        have B : Hid _ := B1.out
        clear B1
        have c0 := B.out.c0; have c1 := B.out.c1; have c2 := B.out.c2; have c3 := B.out.c3; have c4 := B.out.c4
        go_wp2_with fail
        refine (hov _).mono ?_
        rintro e W2 ⟨rfl, hb⟩
        rw [hb]; clear hb
        go_wp2_with fail
        refine (him _).mono ?_
        rintro e W3 ⟨rfl, hb⟩
        have B3 : Hid _ := B.out.pure hb
        clear c0 c1 c2 c3 c4 hb B
        have B : Hid _ := B3.out
        clear B3
        have c0 := B.out.c0; have c1 := B.out.c1; have c2 := B.out.c2; have c3 := B.out.c3; have c4 := B.out.c4
        go_wp2_with fail
        refine (write_any B.out.f (by omega) ⟨#[115, 101, 116]⟩ 34 0 0 im 0).mono ?_
        rintro e W4 ⟨rfl, v4, F4, L4⟩
        have B4 : Hid _ := B.out.add F4 L4
        clear c0 c1 c2 c3 c4 B F4 L4
        have B : Hid _ := B4.out
        clear B4
        have c0 := B.out.c0; have c1 := B.out.c1; have c2 := B.out.c2; have c3 := B.out.c3; have c4 := B.out.c4
        go_wp2_with fail
        refine (add_any B.out.f (by simp [wrO]; omega) os 0 A 34 0 0).mono ?_
        rintro e W5 ⟨rfl, v5, F5, L5⟩
        have B5 : Hid _ := B.out.add F5 L5
        clear c0 c1 c2 c3 c4 B F5 L5
        have B : Hid _ := B5.out
        clear B5
        have c0 := B.out.c0; have c1 := B.out.c1; have c2 := B.out.c2; have c3 := B.out.c3; have c4 := B.out.c4
        go_wp2_with fail
        refine (hki _).mono ?_
        rintro e W6 ⟨rfl, hb⟩
        rw [hb]; clear hb
        go_wp2_with fail
        refine (write_any B.out.f (by simp [wrO]; omega) rs D A 34 0 0).mono ?_
        rintro e W7 ⟨rfl, v7, F7, L7⟩
        have B7 : Hid _ := B.out.add F7 L7
        clear c0 c1 c2 c3 c4 B F7 L7
        have B : Hid _ := B7.out
        clear B7
        have c0 := B.out.c0; have c1 := B.out.c1; have c2 := B.out.c2; have c3 := B.out.c3; have c4 := B.out.c4
        clear c0 c1 c2 c3 c4
        go_wp2
        go_end0
        have := B.out.done
        simp only [List.append_assoc] at this ⊢; exact this
      · go_enter Tryz.func179, Tryz.ntmps179
        go_upto_region 1 with fail
        generalize hW : w.alloc (.cells #[.int .i64 k, .int .i64 s, .int .i64 t, .int .i64 d, .int .u32 m] 113) = W at B ⊢
        generalize hib : w.heap.size = ib at B ⊢
        clear hW hib
        have c0 := B.out.c0; have c1 := B.out.c1; have c2 := B.out.c2; have c3 := B.out.c3; have c4 := B.out.c4
        go_wp2_with fail
        refine (hop _).mono ?_
        rintro e W1 ⟨rfl, hb⟩
        have B1 : Hid _ := B.out.pure hb
        clear c0 c1 c2 c3 c4 hb B
        have B : Hid _ := B1.out
        clear B1
        have c0 := B.out.c0; have c1 := B.out.c1; have c2 := B.out.c2; have c3 := B.out.c3; have c4 := B.out.c4
        go_wp2_with fail
        refine (hov _).mono ?_
        rintro e W2 ⟨rfl, hb⟩
        rw [hb]; clear hb
        go_wp2_with fail
        refine (him _).mono ?_
        rintro e W3 ⟨rfl, hb⟩
        have B3 : Hid _ := B.out.pure hb
        clear c0 c1 c2 c3 c4 hb B
        have B : Hid _ := B3.out
        clear B3
        have c0 := B.out.c0; have c1 := B.out.c1; have c2 := B.out.c2; have c3 := B.out.c3; have c4 := B.out.c4
        go_wp2_with fail
        refine (write_any B.out.f (by omega) ⟨#[115, 101, 116]⟩ 34 0 0 im 0).mono ?_
        rintro e W4 ⟨rfl, v4, F4, L4⟩
        have B4 : Hid _ := B.out.add F4 L4
        clear c0 c1 c2 c3 c4 B F4 L4
        have B : Hid _ := B4.out
        clear B4
        have c0 := B.out.c0; have c1 := B.out.c1; have c2 := B.out.c2; have c3 := B.out.c3; have c4 := B.out.c4
        go_wp2_with fail
        refine (add_any B.out.f (by simp [wrO]; omega) os 0 A 34 0 0).mono ?_
        rintro e W5 ⟨rfl, v5, F5, L5⟩
        have B5 : Hid _ := B.out.add F5 L5
        clear c0 c1 c2 c3 c4 B F5 L5
        have B : Hid _ := B5.out
        clear B5
        have c0 := B.out.c0; have c1 := B.out.c1; have c2 := B.out.c2; have c3 := B.out.c3; have c4 := B.out.c4
        go_wp2_with fail
        refine (hki _).mono ?_
        rintro e W6 ⟨rfl, hb⟩
        rw [hb]; clear hb
        go_wp2_with fail
        refine (write_any B.out.f (by simp [wrO]; omega) rs D A 34 0 0).mono ?_
        rintro e W7 ⟨rfl, v7, F7, L7⟩
        have B7 : Hid _ := B.out.add F7 L7
        clear c0 c1 c2 c3 c4 B F7 L7
        have B : Hid _ := B7.out
        clear B7
        have c0 := B.out.c0; have c1 := B.out.c1; have c2 := B.out.c2; have c3 := B.out.c3; have c4 := B.out.c4
        clear c0 c1 c2 c3 c4
        go_wp2
        go_end0
        have := B.out.done
        simp only [List.append_assoc] at this ⊢; exact this
    · have hG' : (G == 34) = false := by simpa using hG
      rw [if_neg hG, List.nil_append]
      rcases hdx with hD | hD
      · go_enter Tryz.func179, Tryz.ntmps179
        go_upto_region 1 with fail
        generalize hW : w.alloc (.cells #[.int .i64 k, .int .i64 s, .int .i64 t, .int .i64 d, .int .u32 m] 113) = W at B ⊢
        generalize hib : w.heap.size = ib at B ⊢
        clear hW hib
        have c0 := B.out.c0; have c1 := B.out.c1; have c2 := B.out.c2; have c3 := B.out.c3; have c4 := B.out.c4
        go_wp2_with fail
        refine (hop _).mono ?_
        rintro e W1 ⟨rfl, hb⟩
        have B1 : Hid _ := B.out.pure hb
        clear c0 c1 c2 c3 c4 hb B
        have B : Hid _ := B1.out
        clear B1
        have c0 := B.out.c0; have c1 := B.out.c1; have c2 := B.out.c2; have c3 := B.out.c3; have c4 := B.out.c4
        go_wp2_with fail
        refine (hov _).mono ?_
        rintro e W2 ⟨rfl, hb⟩
        rw [hb]; clear hb
        go_wp2_with fail
        refine (add_any B.out.f (by omega) os 0 A G 0 0).mono ?_
        rintro e W5 ⟨rfl, v5, F5, L5⟩
        have B5 : Hid _ := B.out.add F5 L5
        clear c0 c1 c2 c3 c4 B F5 L5
        have B : Hid _ := B5.out
        clear B5
        have c0 := B.out.c0; have c1 := B.out.c1; have c2 := B.out.c2; have c3 := B.out.c3; have c4 := B.out.c4
        go_wp2_with fail
        refine (hki _).mono ?_
        rintro e W6 ⟨rfl, hb⟩
        rw [hb]; clear hb
        go_wp2_with fail
        refine (write_any B.out.f (by simp; omega) rs D A G 0 0).mono ?_
        rintro e W7 ⟨rfl, v7, F7, L7⟩
        have B7 : Hid _ := B.out.add F7 L7
        clear c0 c1 c2 c3 c4 B F7 L7
        have B : Hid _ := B7.out
        clear B7
        have c0 := B.out.c0; have c1 := B.out.c1; have c2 := B.out.c2; have c3 := B.out.c3; have c4 := B.out.c4
        clear c0 c1 c2 c3 c4
        go_wp2
        go_end0
        have := B.out.done
        simp only [List.append_assoc] at this ⊢; exact this
      · go_enter Tryz.func179, Tryz.ntmps179
        go_upto_region 1 with fail
        generalize hW : w.alloc (.cells #[.int .i64 k, .int .i64 s, .int .i64 t, .int .i64 d, .int .u32 m] 113) = W at B ⊢
        generalize hib : w.heap.size = ib at B ⊢
        clear hW hib
        have c0 := B.out.c0; have c1 := B.out.c1; have c2 := B.out.c2; have c3 := B.out.c3; have c4 := B.out.c4
        go_wp2_with fail
        refine (hop _).mono ?_
        rintro e W1 ⟨rfl, hb⟩
        have B1 : Hid _ := B.out.pure hb
        clear c0 c1 c2 c3 c4 hb B
        have B : Hid _ := B1.out
        clear B1
        have c0 := B.out.c0; have c1 := B.out.c1; have c2 := B.out.c2; have c3 := B.out.c3; have c4 := B.out.c4
        go_wp2_with fail
        refine (hov _).mono ?_
        rintro e W2 ⟨rfl, hb⟩
        rw [hb]; clear hb
        go_wp2_with fail
        refine (add_any B.out.f (by omega) os 0 A G 0 0).mono ?_
        rintro e W5 ⟨rfl, v5, F5, L5⟩
        have B5 : Hid _ := B.out.add F5 L5
        clear c0 c1 c2 c3 c4 B F5 L5
        have B : Hid _ := B5.out
        clear B5
        have c0 := B.out.c0; have c1 := B.out.c1; have c2 := B.out.c2; have c3 := B.out.c3; have c4 := B.out.c4
        go_wp2_with fail
        refine (hki _).mono ?_
        rintro e W6 ⟨rfl, hb⟩
        rw [hb]; clear hb
        go_wp2_with fail
        refine (write_any B.out.f (by simp; omega) rs D A G 0 0).mono ?_
        rintro e W7 ⟨rfl, v7, F7, L7⟩
        have B7 : Hid _ := B.out.add F7 L7
        clear c0 c1 c2 c3 c4 B F7 L7
        have B : Hid _ := B7.out
        clear B7
        have c0 := B.out.c0; have c1 := B.out.c1; have c2 := B.out.c2; have c3 := B.out.c3; have c4 := B.out.c4
        clear c0 c1 c2 c3 c4
        go_wp2
        go_end0
        have := B.out.done
        simp only [List.append_assoc] at this ⊢; exact this
end
end Go.Proofs.YtflagpkmebdckaaGreatDoor.Low
