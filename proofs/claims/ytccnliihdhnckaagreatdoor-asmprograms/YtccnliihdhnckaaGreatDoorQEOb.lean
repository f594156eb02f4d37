/-
  What the verifier's EncodeOf answers at some shapes of fields.
-/
import Derived.Test.YtccnliihdhnckaaGreatDoorKEr9
namespace Go.Proofs.YtccnliihdhnckaaGreatDoor
open Go.RowKit Go.Extern.Stop Go.Stop Go.Extern
open Num Tab Fm
set_option linter.unusedVariables false
set_option maxHeartbeats 4000000 in
theorem encodeOf_7 (k : Nat) (h1 : 1 ≤ k) (hk : k < 54) (hsh : sh k = 7) (M0 : 1 ≤ mj k) (M1 : mj k < 64) (M2 : mj k ≠ 16) (hN : mn k = 0) (hfst : fst k = mj k * 67108864) (s t d m : Int) (m0 : 0 ≤ m) (m1 : m < 4294967296) (w : World) :
    Calls Tryz.prog 9 #[ins k s t d m] w fun e w' => e = .returned (encO k s t d m) ∧ Below w.heap.size w w' := by
  have k0 : (1 : Int) ≤ k := by omega
  have k1 : (k : Int) < 54 := by omega
  have hfl : flds k = lt 7 := by show lt (sh k) = _; rw [hsh]
  have f83 : hasB (lt 7) 83 = false := by decide
  have f84 : hasB (lt 7) 84 = false := by decide
  have f68 : hasB (lt 7) 68 = false := by decide
  have f97 : hasB (lt 7) 97 = false := by decide
  have f105 : hasB (lt 7) 105 = false := by decide
  have f106 : hasB (lt 7) 106 = true := by decide
  have g0 : (mj k == 0) = false := by simp; omega
  have g16 : (mj k == 16) = false := by simpa using M2
  by_cases ws : well s false = true
  · have bs := well_of ws
    by_cases wt : well t false = true
    · have bt := well_of wt
      by_cases wd : well d false = true
      · have bd := well_of wd
        simp at bs bt bd
        subst bs
        subst bt
        subst bd
        by_cases hm : m ≤ 67108863
        · have HO : Hid (okB (sh k) 0 0 0 m = true) := by show okB _ _ _ _ _ = _; rw [hsh]; simp [okB, hasS, hasT, hasD, hasJ, top, lt, ltL]; exact (by first | exact ⟨⟨⟨ws, wt⟩, wd⟩, by omega⟩ | (refine ⟨?_, by omega⟩; simp_all) | simp_all)
          have HE : Hid (enc k 0 0 0 m = mj k * 67108864 + 0 * 2097152 + 0 * 65536 + 0 * 2048 + m * 1) := by show enc k _ _ _ m = _; unfold enc by_; rw [hsh, hfst]; simp [hasA, lt, ltL]
          go_enter Tryz.func9, Tryz.ntmps9
          go_wp2_with (go_at_call 30; refine (rowOf_in k k0 k1 _).mono ?_; rintro e w1 ⟨rfl, hb1⟩)
          have bA : Below w.heap.size w w1 := ((Below.refl _ _).alloc (Nat.le_refl _) _).trans (hb1.mono (by simp))
          have bF : ∀ o, Below w.heap.size w (w1.alloc o) := fun o => bA.alloc bA.size _
          have c : ∀ q, w1.cell? ⟨w.heap.size, q, none⟩ = _ := fun q => hb1.cell (p := ⟨w.heap.size, q, none⟩) (by simp)
          have c0 := c 0
          have c1 := c 1
          have c2 := c 2
          have c3 := c 3
          have c4 := c 4
          clear c
          simp at c0 c1 c2 c3 c4
          have hz1 : w.heap.size < w1.heap.size := by have := hb1.size; simp at this; omega
          clear hb1
          have q0 : QF w.heap.size w1.heap.size w (w1.alloc (.cells #[.string ⟨(nme k).toArray⟩, .int .i64 (mj k), .int .i64 (0), .string ⟨(lt 7).toArray⟩, .string ⟨(ordr k).toArray⟩, .string ⟨(kindR k).toArray⟩] 67)) k 0 0 0 m ⟨(nme k).toArray⟩ (mj k) (0) ⟨(lt 7).toArray⟩ ⟨(ordr k).toArray⟩ ⟨(kindR k).toArray⟩ :=
            ⟨by rw [World.cell?_alloc_lt _ _ _ hz1]; exact c0, by rw [World.cell?_alloc_lt _ _ _ hz1]; exact c1, by rw [World.cell?_alloc_lt _ _ _ hz1]; exact c2, by rw [World.cell?_alloc_lt _ _ _ hz1]; exact c3, by rw [World.cell?_alloc_lt _ _ _ hz1]; exact c4, by simp, by simp, by simp, by simp, by simp, by simp, bF _⟩
          go_wp2_with fail
          generalize w1.alloc (.cells #[.string ⟨(nme k).toArray⟩, .int .i64 (mj k), .int .i64 (0), .string ⟨(lt 7).toArray⟩, .string ⟨(ordr k).toArray⟩, .string ⟨(kindR k).toArray⟩] 67) = W0 at q0 ⊢
          clear c0 c1 c2 c3 c4
          obtain ⟨c0, c1, c2, c3, c4, e0, e1, e2, e3, e4, e5, bW⟩ := q0
          go_quiet ((first | (go_at_call 32; exact Calls.quiet_of_same (isOf_lt 7 (by decide) _ _)) | (go_at_call 31; exact Calls.quiet_of_same (well_any _ _ _))))
          have q1 := (QF.mk c0 c1 c2 c3 c4 e0 e1 e2 e3 e4 e5 bW).drewN nq
          generalize W0.drewN nq = W1 at q1 ⊢
          clear c0 c1 c2 c3 c4 e0 e1 e2 e3 e4 e5 bW
          obtain ⟨c0, c1, c2, c3, c4, e0, e1, e2, e3, e4, e5, bW⟩ := q1
          go_wp2_with fail
          go_quiet ((first | (go_at_call 32; exact Calls.quiet_of_same (isOf_lt 7 (by decide) _ _)) | (go_at_call 31; exact Calls.quiet_of_same (well_any _ _ _))))
          have q2 := (QF.mk c0 c1 c2 c3 c4 e0 e1 e2 e3 e4 e5 bW).drewN nq
          generalize W1.drewN nq = W2 at q2 ⊢
          clear c0 c1 c2 c3 c4 e0 e1 e2 e3 e4 e5 bW
          obtain ⟨c0, c1, c2, c3, c4, e0, e1, e2, e3, e4, e5, bW⟩ := q2
          go_wp2_with fail
          go_quiet ((first | (go_at_call 32; exact Calls.quiet_of_same (isOf_lt 7 (by decide) _ _)) | (go_at_call 31; exact Calls.quiet_of_same (well_any _ _ _))))
          have q3 := (QF.mk c0 c1 c2 c3 c4 e0 e1 e2 e3 e4 e5 bW).drewN nq
          generalize W2.drewN nq = W3 at q3 ⊢
          clear c0 c1 c2 c3 c4 e0 e1 e2 e3 e4 e5 bW
          obtain ⟨c0, c1, c2, c3, c4, e0, e1, e2, e3, e4, e5, bW⟩ := q3
          go_wp2_with (go_at_call 32; refine (isOf_lt 7 (by decide) _ _).mono ?_; rintro e w' ⟨rfl, rfl⟩)
          go_ret2
          exact ⟨by rw [encO_ok HO.out, HE.out]; exact ret_oo (by omega) rfl, bW⟩
        · have hm' : 67108863 < m := by omega
          have HO : Hid (okB (sh k) 0 0 0 m = false) := by show okB _ _ _ _ _ = _; rw [hsh]; simp [okB, hasS, hasT, hasD, hasJ, top, lt, ltL]; intros; omega
          go_enter Tryz.func9, Tryz.ntmps9
          go_wp2_with (go_at_call 30; refine (rowOf_in k k0 k1 _).mono ?_; rintro e w1 ⟨rfl, hb1⟩)
          have bA : Below w.heap.size w w1 := ((Below.refl _ _).alloc (Nat.le_refl _) _).trans (hb1.mono (by simp))
          have bF : ∀ o, Below w.heap.size w (w1.alloc o) := fun o => bA.alloc bA.size _
          have c : ∀ q, w1.cell? ⟨w.heap.size, q, none⟩ = _ := fun q => hb1.cell (p := ⟨w.heap.size, q, none⟩) (by simp)
          have c0 := c 0
          have c1 := c 1
          have c2 := c 2
          have c3 := c 3
          have c4 := c 4
          clear c
          simp at c0 c1 c2 c3 c4
          have hz1 : w.heap.size < w1.heap.size := by have := hb1.size; simp at this; omega
          clear hb1
          have q0 : QF w.heap.size w1.heap.size w (w1.alloc (.cells #[.string ⟨(nme k).toArray⟩, .int .i64 (mj k), .int .i64 (0), .string ⟨(lt 7).toArray⟩, .string ⟨(ordr k).toArray⟩, .string ⟨(kindR k).toArray⟩] 67)) k 0 0 0 m ⟨(nme k).toArray⟩ (mj k) (0) ⟨(lt 7).toArray⟩ ⟨(ordr k).toArray⟩ ⟨(kindR k).toArray⟩ :=
            ⟨by rw [World.cell?_alloc_lt _ _ _ hz1]; exact c0, by rw [World.cell?_alloc_lt _ _ _ hz1]; exact c1, by rw [World.cell?_alloc_lt _ _ _ hz1]; exact c2, by rw [World.cell?_alloc_lt _ _ _ hz1]; exact c3, by rw [World.cell?_alloc_lt _ _ _ hz1]; exact c4, by simp, by simp, by simp, by simp, by simp, by simp, bF _⟩
          go_wp2_with fail
          generalize w1.alloc (.cells #[.string ⟨(nme k).toArray⟩, .int .i64 (mj k), .int .i64 (0), .string ⟨(lt 7).toArray⟩, .string ⟨(ordr k).toArray⟩, .string ⟨(kindR k).toArray⟩] 67) = W0 at q0 ⊢
          clear c0 c1 c2 c3 c4
          obtain ⟨c0, c1, c2, c3, c4, e0, e1, e2, e3, e4, e5, bW⟩ := q0
          go_quiet ((first | (go_at_call 32; exact Calls.quiet_of_same (isOf_lt 7 (by decide) _ _)) | (go_at_call 31; exact Calls.quiet_of_same (well_any _ _ _))))
          have q1 := (QF.mk c0 c1 c2 c3 c4 e0 e1 e2 e3 e4 e5 bW).drewN nq
          generalize W0.drewN nq = W1 at q1 ⊢
          clear c0 c1 c2 c3 c4 e0 e1 e2 e3 e4 e5 bW
          obtain ⟨c0, c1, c2, c3, c4, e0, e1, e2, e3, e4, e5, bW⟩ := q1
          go_wp2_with fail
          go_quiet ((first | (go_at_call 32; exact Calls.quiet_of_same (isOf_lt 7 (by decide) _ _)) | (go_at_call 31; exact Calls.quiet_of_same (well_any _ _ _))))
          have q2 := (QF.mk c0 c1 c2 c3 c4 e0 e1 e2 e3 e4 e5 bW).drewN nq
          generalize W1.drewN nq = W2 at q2 ⊢
          clear c0 c1 c2 c3 c4 e0 e1 e2 e3 e4 e5 bW
          obtain ⟨c0, c1, c2, c3, c4, e0, e1, e2, e3, e4, e5, bW⟩ := q2
          go_wp2_with fail
          go_quiet ((first | (go_at_call 32; exact Calls.quiet_of_same (isOf_lt 7 (by decide) _ _)) | (go_at_call 31; exact Calls.quiet_of_same (well_any _ _ _))))
          have q3 := (QF.mk c0 c1 c2 c3 c4 e0 e1 e2 e3 e4 e5 bW).drewN nq
          generalize W2.drewN nq = W3 at q3 ⊢
          clear c0 c1 c2 c3 c4 e0 e1 e2 e3 e4 e5 bW
          obtain ⟨c0, c1, c2, c3, c4, e0, e1, e2, e3, e4, e5, bW⟩ := q3
          go_wp2_with (go_at_call 32; refine (isOf_lt 7 (by decide) _ _).mono ?_; rintro e w' ⟨rfl, rfl⟩)
          go_ret2
          exact ⟨by rw [encO_bad HO.out]; rfl, bW⟩
      · have wd' : well d false = false := by simpa using wd
        have HO : Hid (okB (sh k) s t d m = false) := by show okB _ _ _ _ _ = _; rw [hsh]; simp [okB, hasS, hasT, hasD, lt, ltL, wd']
        go_enter Tryz.func9, Tryz.ntmps9
        go_wp2_with (go_at_call 30; refine (rowOf_in k k0 k1 _).mono ?_; rintro e w1 ⟨rfl, hb1⟩)
        have bA : Below w.heap.size w w1 := ((Below.refl _ _).alloc (Nat.le_refl _) _).trans (hb1.mono (by simp))
        have bF : ∀ o, Below w.heap.size w (w1.alloc o) := fun o => bA.alloc bA.size _
        have c : ∀ q, w1.cell? ⟨w.heap.size, q, none⟩ = _ := fun q => hb1.cell (p := ⟨w.heap.size, q, none⟩) (by simp)
        have c0 := c 0
        have c1 := c 1
        have c2 := c 2
        have c3 := c 3
        have c4 := c 4
        clear c
        simp at c0 c1 c2 c3 c4
        have hz1 : w.heap.size < w1.heap.size := by have := hb1.size; simp at this; omega
        clear hb1
        have q0 : QF w.heap.size w1.heap.size w (w1.alloc (.cells #[.string ⟨(nme k).toArray⟩, .int .i64 (mj k), .int .i64 (0), .string ⟨(lt 7).toArray⟩, .string ⟨(ordr k).toArray⟩, .string ⟨(kindR k).toArray⟩] 67)) k s t d m ⟨(nme k).toArray⟩ (mj k) (0) ⟨(lt 7).toArray⟩ ⟨(ordr k).toArray⟩ ⟨(kindR k).toArray⟩ :=
          ⟨by rw [World.cell?_alloc_lt _ _ _ hz1]; exact c0, by rw [World.cell?_alloc_lt _ _ _ hz1]; exact c1, by rw [World.cell?_alloc_lt _ _ _ hz1]; exact c2, by rw [World.cell?_alloc_lt _ _ _ hz1]; exact c3, by rw [World.cell?_alloc_lt _ _ _ hz1]; exact c4, by simp, by simp, by simp, by simp, by simp, by simp, bF _⟩
        go_wp2_with fail
        generalize w1.alloc (.cells #[.string ⟨(nme k).toArray⟩, .int .i64 (mj k), .int .i64 (0), .string ⟨(lt 7).toArray⟩, .string ⟨(ordr k).toArray⟩, .string ⟨(kindR k).toArray⟩] 67) = W0 at q0 ⊢
        clear c0 c1 c2 c3 c4
        obtain ⟨c0, c1, c2, c3, c4, e0, e1, e2, e3, e4, e5, bW⟩ := q0
        go_quiet ((first | (go_at_call 32; exact Calls.quiet_of_same (isOf_lt 7 (by decide) _ _)) | (go_at_call 31; exact Calls.quiet_of_same (well_any _ _ _))))
        have q1 := (QF.mk c0 c1 c2 c3 c4 e0 e1 e2 e3 e4 e5 bW).drewN nq
        generalize W0.drewN nq = W1 at q1 ⊢
        clear c0 c1 c2 c3 c4 e0 e1 e2 e3 e4 e5 bW
        obtain ⟨c0, c1, c2, c3, c4, e0, e1, e2, e3, e4, e5, bW⟩ := q1
        go_wp2_with fail
        go_quiet ((first | (go_at_call 32; exact Calls.quiet_of_same (isOf_lt 7 (by decide) _ _)) | (go_at_call 31; exact Calls.quiet_of_same (well_any _ _ _))))
        have q2 := (QF.mk c0 c1 c2 c3 c4 e0 e1 e2 e3 e4 e5 bW).drewN nq
        generalize W1.drewN nq = W2 at q2 ⊢
        clear c0 c1 c2 c3 c4 e0 e1 e2 e3 e4 e5 bW
        obtain ⟨c0, c1, c2, c3, c4, e0, e1, e2, e3, e4, e5, bW⟩ := q2
        go_wp2_with fail
        go_quiet ((first | (go_at_call 32; exact Calls.quiet_of_same (isOf_lt 7 (by decide) _ _)) | (go_at_call 31; exact Calls.quiet_of_same (well_any _ _ _))))
        have q3 := (QF.mk c0 c1 c2 c3 c4 e0 e1 e2 e3 e4 e5 bW).drewN nq
        generalize W2.drewN nq = W3 at q3 ⊢
        clear c0 c1 c2 c3 c4 e0 e1 e2 e3 e4 e5 bW
        obtain ⟨c0, c1, c2, c3, c4, e0, e1, e2, e3, e4, e5, bW⟩ := q3
        go_wp2_with (go_at_call 32; refine (isOf_lt 7 (by decide) _ _).mono ?_; rintro e w' ⟨rfl, rfl⟩)
        go_ret2
        exact ⟨by rw [encO_bad HO.out]; rfl, bW⟩
    · have wt' : well t false = false := by simpa using wt
      have HO : Hid (okB (sh k) s t d m = false) := by show okB _ _ _ _ _ = _; rw [hsh]; simp [okB, hasS, hasT, hasD, lt, ltL, wt']
      go_enter Tryz.func9, Tryz.ntmps9
      go_wp2_with (go_at_call 30; refine (rowOf_in k k0 k1 _).mono ?_; rintro e w1 ⟨rfl, hb1⟩)
      have bA : Below w.heap.size w w1 := ((Below.refl _ _).alloc (Nat.le_refl _) _).trans (hb1.mono (by simp))
      have bF : ∀ o, Below w.heap.size w (w1.alloc o) := fun o => bA.alloc bA.size _
      have c : ∀ q, w1.cell? ⟨w.heap.size, q, none⟩ = _ := fun q => hb1.cell (p := ⟨w.heap.size, q, none⟩) (by simp)
      have c0 := c 0
      have c1 := c 1
      have c2 := c 2
      have c3 := c 3
      have c4 := c 4
      clear c
      simp at c0 c1 c2 c3 c4
      have hz1 : w.heap.size < w1.heap.size := by have := hb1.size; simp at this; omega
      clear hb1
      have q0 : QF w.heap.size w1.heap.size w (w1.alloc (.cells #[.string ⟨(nme k).toArray⟩, .int .i64 (mj k), .int .i64 (0), .string ⟨(lt 7).toArray⟩, .string ⟨(ordr k).toArray⟩, .string ⟨(kindR k).toArray⟩] 67)) k s t d m ⟨(nme k).toArray⟩ (mj k) (0) ⟨(lt 7).toArray⟩ ⟨(ordr k).toArray⟩ ⟨(kindR k).toArray⟩ :=
        ⟨by rw [World.cell?_alloc_lt _ _ _ hz1]; exact c0, by rw [World.cell?_alloc_lt _ _ _ hz1]; exact c1, by rw [World.cell?_alloc_lt _ _ _ hz1]; exact c2, by rw [World.cell?_alloc_lt _ _ _ hz1]; exact c3, by rw [World.cell?_alloc_lt _ _ _ hz1]; exact c4, by simp, by simp, by simp, by simp, by simp, by simp, bF _⟩
      go_wp2_with fail
      generalize w1.alloc (.cells #[.string ⟨(nme k).toArray⟩, .int .i64 (mj k), .int .i64 (0), .string ⟨(lt 7).toArray⟩, .string ⟨(ordr k).toArray⟩, .string ⟨(kindR k).toArray⟩] 67) = W0 at q0 ⊢
      clear c0 c1 c2 c3 c4
      obtain ⟨c0, c1, c2, c3, c4, e0, e1, e2, e3, e4, e5, bW⟩ := q0
      go_quiet ((first | (go_at_call 32; exact Calls.quiet_of_same (isOf_lt 7 (by decide) _ _)) | (go_at_call 31; exact Calls.quiet_of_same (well_any _ _ _))))
      have q1 := (QF.mk c0 c1 c2 c3 c4 e0 e1 e2 e3 e4 e5 bW).drewN nq
      generalize W0.drewN nq = W1 at q1 ⊢
      clear c0 c1 c2 c3 c4 e0 e1 e2 e3 e4 e5 bW
      obtain ⟨c0, c1, c2, c3, c4, e0, e1, e2, e3, e4, e5, bW⟩ := q1
      go_wp2_with fail
      go_quiet ((first | (go_at_call 32; exact Calls.quiet_of_same (isOf_lt 7 (by decide) _ _)) | (go_at_call 31; exact Calls.quiet_of_same (well_any _ _ _))))
      have q2 := (QF.mk c0 c1 c2 c3 c4 e0 e1 e2 e3 e4 e5 bW).drewN nq
      generalize W1.drewN nq = W2 at q2 ⊢
      clear c0 c1 c2 c3 c4 e0 e1 e2 e3 e4 e5 bW
      obtain ⟨c0, c1, c2, c3, c4, e0, e1, e2, e3, e4, e5, bW⟩ := q2
      go_wp2_with fail
      go_quiet ((first | (go_at_call 32; exact Calls.quiet_of_same (isOf_lt 7 (by decide) _ _)) | (go_at_call 31; exact Calls.quiet_of_same (well_any _ _ _))))
      have q3 := (QF.mk c0 c1 c2 c3 c4 e0 e1 e2 e3 e4 e5 bW).drewN nq
      generalize W2.drewN nq = W3 at q3 ⊢
      clear c0 c1 c2 c3 c4 e0 e1 e2 e3 e4 e5 bW
      obtain ⟨c0, c1, c2, c3, c4, e0, e1, e2, e3, e4, e5, bW⟩ := q3
      go_wp2_with (go_at_call 32; refine (isOf_lt 7 (by decide) _ _).mono ?_; rintro e w' ⟨rfl, rfl⟩)
      go_ret2
      exact ⟨by rw [encO_bad HO.out]; rfl, bW⟩
  · have ws' : well s false = false := by simpa using ws
    have HO : Hid (okB (sh k) s t d m = false) := by show okB _ _ _ _ _ = _; rw [hsh]; simp [okB, hasS, hasT, hasD, lt, ltL, ws']
    go_enter Tryz.func9, Tryz.ntmps9
    go_wp2_with (go_at_call 30; refine (rowOf_in k k0 k1 _).mono ?_; rintro e w1 ⟨rfl, hb1⟩)
    have bA : Below w.heap.size w w1 := ((Below.refl _ _).alloc (Nat.le_refl _) _).trans (hb1.mono (by simp))
    have bF : ∀ o, Below w.heap.size w (w1.alloc o) := fun o => bA.alloc bA.size _
    have c : ∀ q, w1.cell? ⟨w.heap.size, q, none⟩ = _ := fun q => hb1.cell (p := ⟨w.heap.size, q, none⟩) (by simp)
    have c0 := c 0
    have c1 := c 1
    have c2 := c 2
    have c3 := c 3
    have c4 := c 4
    clear c
    simp at c0 c1 c2 c3 c4
    have hz1 : w.heap.size < w1.heap.size := by have := hb1.size; simp at this; omega
    clear hb1
    have q0 : QF w.heap.size w1.heap.size w (w1.alloc (.cells #[.string ⟨(nme k).toArray⟩, .int .i64 (mj k), .int .i64 (0), .string ⟨(lt 7).toArray⟩, .string ⟨(ordr k).toArray⟩, .string ⟨(kindR k).toArray⟩] 67)) k s t d m ⟨(nme k).toArray⟩ (mj k) (0) ⟨(lt 7).toArray⟩ ⟨(ordr k).toArray⟩ ⟨(kindR k).toArray⟩ :=
      ⟨by rw [World.cell?_alloc_lt _ _ _ hz1]; exact c0, by rw [World.cell?_alloc_lt _ _ _ hz1]; exact c1, by rw [World.cell?_alloc_lt _ _ _ hz1]; exact c2, by rw [World.cell?_alloc_lt _ _ _ hz1]; exact c3, by rw [World.cell?_alloc_lt _ _ _ hz1]; exact c4, by simp, by simp, by simp, by simp, by simp, by simp, bF _⟩
    go_wp2_with fail
    generalize w1.alloc (.cells #[.string ⟨(nme k).toArray⟩, .int .i64 (mj k), .int .i64 (0), .string ⟨(lt 7).toArray⟩, .string ⟨(ordr k).toArray⟩, .string ⟨(kindR k).toArray⟩] 67) = W0 at q0 ⊢
    clear c0 c1 c2 c3 c4
    obtain ⟨c0, c1, c2, c3, c4, e0, e1, e2, e3, e4, e5, bW⟩ := q0
    go_quiet ((first | (go_at_call 32; exact Calls.quiet_of_same (isOf_lt 7 (by decide) _ _)) | (go_at_call 31; exact Calls.quiet_of_same (well_any _ _ _))))
    have q1 := (QF.mk c0 c1 c2 c3 c4 e0 e1 e2 e3 e4 e5 bW).drewN nq
    generalize W0.drewN nq = W1 at q1 ⊢
    clear c0 c1 c2 c3 c4 e0 e1 e2 e3 e4 e5 bW
    obtain ⟨c0, c1, c2, c3, c4, e0, e1, e2, e3, e4, e5, bW⟩ := q1
    go_wp2_with fail
    go_quiet ((first | (go_at_call 32; exact Calls.quiet_of_same (isOf_lt 7 (by decide) _ _)) | (go_at_call 31; exact Calls.quiet_of_same (well_any _ _ _))))
    have q2 := (QF.mk c0 c1 c2 c3 c4 e0 e1 e2 e3 e4 e5 bW).drewN nq
    generalize W1.drewN nq = W2 at q2 ⊢
    clear c0 c1 c2 c3 c4 e0 e1 e2 e3 e4 e5 bW
    obtain ⟨c0, c1, c2, c3, c4, e0, e1, e2, e3, e4, e5, bW⟩ := q2
    go_wp2_with fail
    go_quiet ((first | (go_at_call 32; exact Calls.quiet_of_same (isOf_lt 7 (by decide) _ _)) | (go_at_call 31; exact Calls.quiet_of_same (well_any _ _ _))))
    have q3 := (QF.mk c0 c1 c2 c3 c4 e0 e1 e2 e3 e4 e5 bW).drewN nq
    generalize W2.drewN nq = W3 at q3 ⊢
    clear c0 c1 c2 c3 c4 e0 e1 e2 e3 e4 e5 bW
    obtain ⟨c0, c1, c2, c3, c4, e0, e1, e2, e3, e4, e5, bW⟩ := q3
    go_wp2_with (go_at_call 32; refine (isOf_lt 7 (by decide) _ _).mono ?_; rintro e w' ⟨rfl, rfl⟩)
    go_ret2
    exact ⟨by rw [encO_bad HO.out]; rfl, bW⟩
set_option maxHeartbeats 4000000 in
theorem encodeOf_8 (k : Nat) (h1 : 1 ≤ k) (hk : k < 54) (hsh : sh k = 8) (M0 : 1 ≤ mj k) (M1 : mj k < 64) (M2 : mj k ≠ 16) (hN : mn k = 0) (hfst : fst k = mj k * 67108864) (s t d m : Int) (m0 : 0 ≤ m) (m1 : m < 4294967296) (w : World) :
    Calls Tryz.prog 9 #[ins k s t d m] w fun e w' => e = .returned (encO k s t d m) ∧ Below w.heap.size w w' := by
  have k0 : (1 : Int) ≤ k := by omega
  have k1 : (k : Int) < 54 := by omega
  have hfl : flds k = lt 8 := by show lt (sh k) = _; rw [hsh]
  have f83 : hasB (lt 8) 83 = true := by decide
  have f84 : hasB (lt 8) 84 = true := by decide
  have f68 : hasB (lt 8) 68 = false := by decide
  have f97 : hasB (lt 8) 97 = false := by decide
  have f105 : hasB (lt 8) 105 = true := by decide
  have f106 : hasB (lt 8) 106 = false := by decide
  have g0 : (mj k == 0) = false := by simp; omega
  have g16 : (mj k == 16) = false := by simpa using M2
  by_cases ws : well s true = true
  · have bs := well_of ws
    by_cases wt : well t true = true
    · have bt := well_of wt
      by_cases wd : well d false = true
      · have bd := well_of wd
        simp at bs bt bd
        subst bd
        by_cases hm : m ≤ 65535
        · have HO : Hid (okB (sh k) s t 0 m = true) := by show okB _ _ _ _ _ = _; rw [hsh]; simp [okB, hasS, hasT, hasD, hasI, hasJ, top, lt, ltL]; exact (by first | exact ⟨⟨⟨ws, wt⟩, wd⟩, by omega⟩ | (refine ⟨?_, by omega⟩; simp_all) | simp_all)
          have HE : Hid (enc k s t 0 m = mj k * 67108864 + s * 2097152 + t * 65536 + 0 * 2048 + m * 1) := by show enc k _ _ _ m = _; unfold enc by_; rw [hsh, hfst]; simp [hasA, lt, ltL]
          go_enter Tryz.func9, Tryz.ntmps9
          go_wp2_with (go_at_call 30; refine (rowOf_in k k0 k1 _).mono ?_; rintro e w1 ⟨rfl, hb1⟩)
          have bA : Below w.heap.size w w1 := ((Below.refl _ _).alloc (Nat.le_refl _) _).trans (hb1.mono (by simp))
          have bF : ∀ o, Below w.heap.size w (w1.alloc o) := fun o => bA.alloc bA.size _
          have c : ∀ q, w1.cell? ⟨w.heap.size, q, none⟩ = _ := fun q => hb1.cell (p := ⟨w.heap.size, q, none⟩) (by simp)
          have c0 := c 0
          have c1 := c 1
          have c2 := c 2
          have c3 := c 3
          have c4 := c 4
          clear c
          simp at c0 c1 c2 c3 c4
          have hz1 : w.heap.size < w1.heap.size := by have := hb1.size; simp at this; omega
          clear hb1
          have q0 : QF w.heap.size w1.heap.size w (w1.alloc (.cells #[.string ⟨(nme k).toArray⟩, .int .i64 (mj k), .int .i64 (0), .string ⟨(lt 8).toArray⟩, .string ⟨(ordr k).toArray⟩, .string ⟨(kindR k).toArray⟩] 67)) k s t 0 m ⟨(nme k).toArray⟩ (mj k) (0) ⟨(lt 8).toArray⟩ ⟨(ordr k).toArray⟩ ⟨(kindR k).toArray⟩ :=
            ⟨by rw [World.cell?_alloc_lt _ _ _ hz1]; exact c0, by rw [World.cell?_alloc_lt _ _ _ hz1]; exact c1, by rw [World.cell?_alloc_lt _ _ _ hz1]; exact c2, by rw [World.cell?_alloc_lt _ _ _ hz1]; exact c3, by rw [World.cell?_alloc_lt _ _ _ hz1]; exact c4, by simp, by simp, by simp, by simp, by simp, by simp, bF _⟩
          go_wp2_with fail
          generalize w1.alloc (.cells #[.string ⟨(nme k).toArray⟩, .int .i64 (mj k), .int .i64 (0), .string ⟨(lt 8).toArray⟩, .string ⟨(ordr k).toArray⟩, .string ⟨(kindR k).toArray⟩] 67) = W0 at q0 ⊢
          clear c0 c1 c2 c3 c4
          obtain ⟨c0, c1, c2, c3, c4, e0, e1, e2, e3, e4, e5, bW⟩ := q0
          go_quiet ((first | (go_at_call 32; exact Calls.quiet_of_same (isOf_lt 8 (by decide) _ _)) | (go_at_call 31; exact Calls.quiet_of_same (well_any _ _ _))))
          have q1 := (QF.mk c0 c1 c2 c3 c4 e0 e1 e2 e3 e4 e5 bW).drewN nq
          generalize W0.drewN nq = W1 at q1 ⊢
          clear c0 c1 c2 c3 c4 e0 e1 e2 e3 e4 e5 bW
          obtain ⟨c0, c1, c2, c3, c4, e0, e1, e2, e3, e4, e5, bW⟩ := q1
          go_wp2_with fail
          go_quiet ((first | (go_at_call 32; exact Calls.quiet_of_same (isOf_lt 8 (by decide) _ _)) | (go_at_call 31; exact Calls.quiet_of_same (well_any _ _ _))))
          have q2 := (QF.mk c0 c1 c2 c3 c4 e0 e1 e2 e3 e4 e5 bW).drewN nq
          generalize W1.drewN nq = W2 at q2 ⊢
          clear c0 c1 c2 c3 c4 e0 e1 e2 e3 e4 e5 bW
          obtain ⟨c0, c1, c2, c3, c4, e0, e1, e2, e3, e4, e5, bW⟩ := q2
          go_wp2_with fail
          go_quiet ((first | (go_at_call 32; exact Calls.quiet_of_same (isOf_lt 8 (by decide) _ _)) | (go_at_call 31; exact Calls.quiet_of_same (well_any _ _ _))))
          have q3 := (QF.mk c0 c1 c2 c3 c4 e0 e1 e2 e3 e4 e5 bW).drewN nq
          generalize W2.drewN nq = W3 at q3 ⊢
          clear c0 c1 c2 c3 c4 e0 e1 e2 e3 e4 e5 bW
          obtain ⟨c0, c1, c2, c3, c4, e0, e1, e2, e3, e4, e5, bW⟩ := q3
          go_wp2_with (go_at_call 32; refine (isOf_lt 8 (by decide) _ _).mono ?_; rintro e w' ⟨rfl, rfl⟩)
          go_ret2
          exact ⟨by rw [encO_ok HO.out, HE.out]; exact ret_oo (by omega) rfl, bW⟩
        · have hm' : 65535 < m := by omega
          have HO : Hid (okB (sh k) s t 0 m = false) := by show okB _ _ _ _ _ = _; rw [hsh]; simp [okB, hasS, hasT, hasD, hasI, hasJ, top, lt, ltL]; intros; omega
          go_enter Tryz.func9, Tryz.ntmps9
          go_wp2_with (go_at_call 30; refine (rowOf_in k k0 k1 _).mono ?_; rintro e w1 ⟨rfl, hb1⟩)
          have bA : Below w.heap.size w w1 := ((Below.refl _ _).alloc (Nat.le_refl _) _).trans (hb1.mono (by simp))
          have bF : ∀ o, Below w.heap.size w (w1.alloc o) := fun o => bA.alloc bA.size _
          have c : ∀ q, w1.cell? ⟨w.heap.size, q, none⟩ = _ := fun q => hb1.cell (p := ⟨w.heap.size, q, none⟩) (by simp)
          have c0 := c 0
          have c1 := c 1
          have c2 := c 2
          have c3 := c 3
          have c4 := c 4
          clear c
          simp at c0 c1 c2 c3 c4
          have hz1 : w.heap.size < w1.heap.size := by have := hb1.size; simp at this; omega
          clear hb1
          have q0 : QF w.heap.size w1.heap.size w (w1.alloc (.cells #[.string ⟨(nme k).toArray⟩, .int .i64 (mj k), .int .i64 (0), .string ⟨(lt 8).toArray⟩, .string ⟨(ordr k).toArray⟩, .string ⟨(kindR k).toArray⟩] 67)) k s t 0 m ⟨(nme k).toArray⟩ (mj k) (0) ⟨(lt 8).toArray⟩ ⟨(ordr k).toArray⟩ ⟨(kindR k).toArray⟩ :=
            ⟨by rw [World.cell?_alloc_lt _ _ _ hz1]; exact c0, by rw [World.cell?_alloc_lt _ _ _ hz1]; exact c1, by rw [World.cell?_alloc_lt _ _ _ hz1]; exact c2, by rw [World.cell?_alloc_lt _ _ _ hz1]; exact c3, by rw [World.cell?_alloc_lt _ _ _ hz1]; exact c4, by simp, by simp, by simp, by simp, by simp, by simp, bF _⟩
          go_wp2_with fail
          generalize w1.alloc (.cells #[.string ⟨(nme k).toArray⟩, .int .i64 (mj k), .int .i64 (0), .string ⟨(lt 8).toArray⟩, .string ⟨(ordr k).toArray⟩, .string ⟨(kindR k).toArray⟩] 67) = W0 at q0 ⊢
          clear c0 c1 c2 c3 c4
          obtain ⟨c0, c1, c2, c3, c4, e0, e1, e2, e3, e4, e5, bW⟩ := q0
          go_quiet ((first | (go_at_call 32; exact Calls.quiet_of_same (isOf_lt 8 (by decide) _ _)) | (go_at_call 31; exact Calls.quiet_of_same (well_any _ _ _))))
          have q1 := (QF.mk c0 c1 c2 c3 c4 e0 e1 e2 e3 e4 e5 bW).drewN nq
          generalize W0.drewN nq = W1 at q1 ⊢
          clear c0 c1 c2 c3 c4 e0 e1 e2 e3 e4 e5 bW
          obtain ⟨c0, c1, c2, c3, c4, e0, e1, e2, e3, e4, e5, bW⟩ := q1
          go_wp2_with fail
          go_quiet ((first | (go_at_call 32; exact Calls.quiet_of_same (isOf_lt 8 (by decide) _ _)) | (go_at_call 31; exact Calls.quiet_of_same (well_any _ _ _))))
          have q2 := (QF.mk c0 c1 c2 c3 c4 e0 e1 e2 e3 e4 e5 bW).drewN nq
          generalize W1.drewN nq = W2 at q2 ⊢
          clear c0 c1 c2 c3 c4 e0 e1 e2 e3 e4 e5 bW
          obtain ⟨c0, c1, c2, c3, c4, e0, e1, e2, e3, e4, e5, bW⟩ := q2
          go_wp2_with fail
          go_quiet ((first | (go_at_call 32; exact Calls.quiet_of_same (isOf_lt 8 (by decide) _ _)) | (go_at_call 31; exact Calls.quiet_of_same (well_any _ _ _))))
          have q3 := (QF.mk c0 c1 c2 c3 c4 e0 e1 e2 e3 e4 e5 bW).drewN nq
          generalize W2.drewN nq = W3 at q3 ⊢
          clear c0 c1 c2 c3 c4 e0 e1 e2 e3 e4 e5 bW
          obtain ⟨c0, c1, c2, c3, c4, e0, e1, e2, e3, e4, e5, bW⟩ := q3
          go_wp2_with (go_at_call 32; refine (isOf_lt 8 (by decide) _ _).mono ?_; rintro e w' ⟨rfl, rfl⟩)
          go_ret2
          exact ⟨by rw [encO_bad HO.out]; rfl, bW⟩
      · have wd' : well d false = false := by simpa using wd
        have HO : Hid (okB (sh k) s t d m = false) := by show okB _ _ _ _ _ = _; rw [hsh]; simp [okB, hasS, hasT, hasD, lt, ltL, wd']
        go_enter Tryz.func9, Tryz.ntmps9
        go_wp2_with (go_at_call 30; refine (rowOf_in k k0 k1 _).mono ?_; rintro e w1 ⟨rfl, hb1⟩)
        have bA : Below w.heap.size w w1 := ((Below.refl _ _).alloc (Nat.le_refl _) _).trans (hb1.mono (by simp))
        have bF : ∀ o, Below w.heap.size w (w1.alloc o) := fun o => bA.alloc bA.size _
        have c : ∀ q, w1.cell? ⟨w.heap.size, q, none⟩ = _ := fun q => hb1.cell (p := ⟨w.heap.size, q, none⟩) (by simp)
        have c0 := c 0
        have c1 := c 1
        have c2 := c 2
        have c3 := c 3
        have c4 := c 4
        clear c
        simp at c0 c1 c2 c3 c4
        have hz1 : w.heap.size < w1.heap.size := by have := hb1.size; simp at this; omega
        clear hb1
        have q0 : QF w.heap.size w1.heap.size w (w1.alloc (.cells #[.string ⟨(nme k).toArray⟩, .int .i64 (mj k), .int .i64 (0), .string ⟨(lt 8).toArray⟩, .string ⟨(ordr k).toArray⟩, .string ⟨(kindR k).toArray⟩] 67)) k s t d m ⟨(nme k).toArray⟩ (mj k) (0) ⟨(lt 8).toArray⟩ ⟨(ordr k).toArray⟩ ⟨(kindR k).toArray⟩ :=
          ⟨by rw [World.cell?_alloc_lt _ _ _ hz1]; exact c0, by rw [World.cell?_alloc_lt _ _ _ hz1]; exact c1, by rw [World.cell?_alloc_lt _ _ _ hz1]; exact c2, by rw [World.cell?_alloc_lt _ _ _ hz1]; exact c3, by rw [World.cell?_alloc_lt _ _ _ hz1]; exact c4, by simp, by simp, by simp, by simp, by simp, by simp, bF _⟩
        go_wp2_with fail
        generalize w1.alloc (.cells #[.string ⟨(nme k).toArray⟩, .int .i64 (mj k), .int .i64 (0), .string ⟨(lt 8).toArray⟩, .string ⟨(ordr k).toArray⟩, .string ⟨(kindR k).toArray⟩] 67) = W0 at q0 ⊢
        clear c0 c1 c2 c3 c4
        obtain ⟨c0, c1, c2, c3, c4, e0, e1, e2, e3, e4, e5, bW⟩ := q0
        go_quiet ((first | (go_at_call 32; exact Calls.quiet_of_same (isOf_lt 8 (by decide) _ _)) | (go_at_call 31; exact Calls.quiet_of_same (well_any _ _ _))))
        have q1 := (QF.mk c0 c1 c2 c3 c4 e0 e1 e2 e3 e4 e5 bW).drewN nq
        generalize W0.drewN nq = W1 at q1 ⊢
        clear c0 c1 c2 c3 c4 e0 e1 e2 e3 e4 e5 bW
        obtain ⟨c0, c1, c2, c3, c4, e0, e1, e2, e3, e4, e5, bW⟩ := q1
        go_wp2_with fail
        go_quiet ((first | (go_at_call 32; exact Calls.quiet_of_same (isOf_lt 8 (by decide) _ _)) | (go_at_call 31; exact Calls.quiet_of_same (well_any _ _ _))))
        have q2 := (QF.mk c0 c1 c2 c3 c4 e0 e1 e2 e3 e4 e5 bW).drewN nq
        generalize W1.drewN nq = W2 at q2 ⊢
        clear c0 c1 c2 c3 c4 e0 e1 e2 e3 e4 e5 bW
        obtain ⟨c0, c1, c2, c3, c4, e0, e1, e2, e3, e4, e5, bW⟩ := q2
        go_wp2_with fail
        go_quiet ((first | (go_at_call 32; exact Calls.quiet_of_same (isOf_lt 8 (by decide) _ _)) | (go_at_call 31; exact Calls.quiet_of_same (well_any _ _ _))))
        have q3 := (QF.mk c0 c1 c2 c3 c4 e0 e1 e2 e3 e4 e5 bW).drewN nq
        generalize W2.drewN nq = W3 at q3 ⊢
        clear c0 c1 c2 c3 c4 e0 e1 e2 e3 e4 e5 bW
        obtain ⟨c0, c1, c2, c3, c4, e0, e1, e2, e3, e4, e5, bW⟩ := q3
        go_wp2_with (go_at_call 32; refine (isOf_lt 8 (by decide) _ _).mono ?_; rintro e w' ⟨rfl, rfl⟩)
        go_ret2
        exact ⟨by rw [encO_bad HO.out]; rfl, bW⟩
    · have wt' : well t true = false := by simpa using wt
      have HO : Hid (okB (sh k) s t d m = false) := by show okB _ _ _ _ _ = _; rw [hsh]; simp [okB, hasS, hasT, hasD, lt, ltL, wt']
      go_enter Tryz.func9, Tryz.ntmps9
      go_wp2_with (go_at_call 30; refine (rowOf_in k k0 k1 _).mono ?_; rintro e w1 ⟨rfl, hb1⟩)
      have bA : Below w.heap.size w w1 := ((Below.refl _ _).alloc (Nat.le_refl _) _).trans (hb1.mono (by simp))
      have bF : ∀ o, Below w.heap.size w (w1.alloc o) := fun o => bA.alloc bA.size _
      have c : ∀ q, w1.cell? ⟨w.heap.size, q, none⟩ = _ := fun q => hb1.cell (p := ⟨w.heap.size, q, none⟩) (by simp)
      have c0 := c 0
      have c1 := c 1
      have c2 := c 2
      have c3 := c 3
      have c4 := c 4
      clear c
      simp at c0 c1 c2 c3 c4
      have hz1 : w.heap.size < w1.heap.size := by have := hb1.size; simp at this; omega
      clear hb1
      have q0 : QF w.heap.size w1.heap.size w (w1.alloc (.cells #[.string ⟨(nme k).toArray⟩, .int .i64 (mj k), .int .i64 (0), .string ⟨(lt 8).toArray⟩, .string ⟨(ordr k).toArray⟩, .string ⟨(kindR k).toArray⟩] 67)) k s t d m ⟨(nme k).toArray⟩ (mj k) (0) ⟨(lt 8).toArray⟩ ⟨(ordr k).toArray⟩ ⟨(kindR k).toArray⟩ :=
        ⟨by rw [World.cell?_alloc_lt _ _ _ hz1]; exact c0, by rw [World.cell?_alloc_lt _ _ _ hz1]; exact c1, by rw [World.cell?_alloc_lt _ _ _ hz1]; exact c2, by rw [World.cell?_alloc_lt _ _ _ hz1]; exact c3, by rw [World.cell?_alloc_lt _ _ _ hz1]; exact c4, by simp, by simp, by simp, by simp, by simp, by simp, bF _⟩
      go_wp2_with fail
      generalize w1.alloc (.cells #[.string ⟨(nme k).toArray⟩, .int .i64 (mj k), .int .i64 (0), .string ⟨(lt 8).toArray⟩, .string ⟨(ordr k).toArray⟩, .string ⟨(kindR k).toArray⟩] 67) = W0 at q0 ⊢
      clear c0 c1 c2 c3 c4
      obtain ⟨c0, c1, c2, c3, c4, e0, e1, e2, e3, e4, e5, bW⟩ := q0
      go_quiet ((first | (go_at_call 32; exact Calls.quiet_of_same (isOf_lt 8 (by decide) _ _)) | (go_at_call 31; exact Calls.quiet_of_same (well_any _ _ _))))
      have q1 := (QF.mk c0 c1 c2 c3 c4 e0 e1 e2 e3 e4 e5 bW).drewN nq
      generalize W0.drewN nq = W1 at q1 ⊢
      clear c0 c1 c2 c3 c4 e0 e1 e2 e3 e4 e5 bW
      obtain ⟨c0, c1, c2, c3, c4, e0, e1, e2, e3, e4, e5, bW⟩ := q1
      go_wp2_with fail
      go_quiet ((first | (go_at_call 32; exact Calls.quiet_of_same (isOf_lt 8 (by decide) _ _)) | (go_at_call 31; exact Calls.quiet_of_same (well_any _ _ _))))
      have q2 := (QF.mk c0 c1 c2 c3 c4 e0 e1 e2 e3 e4 e5 bW).drewN nq
      generalize W1.drewN nq = W2 at q2 ⊢
      clear c0 c1 c2 c3 c4 e0 e1 e2 e3 e4 e5 bW
      obtain ⟨c0, c1, c2, c3, c4, e0, e1, e2, e3, e4, e5, bW⟩ := q2
      go_wp2_with fail
      go_quiet ((first | (go_at_call 32; exact Calls.quiet_of_same (isOf_lt 8 (by decide) _ _)) | (go_at_call 31; exact Calls.quiet_of_same (well_any _ _ _))))
      have q3 := (QF.mk c0 c1 c2 c3 c4 e0 e1 e2 e3 e4 e5 bW).drewN nq
      generalize W2.drewN nq = W3 at q3 ⊢
      clear c0 c1 c2 c3 c4 e0 e1 e2 e3 e4 e5 bW
      obtain ⟨c0, c1, c2, c3, c4, e0, e1, e2, e3, e4, e5, bW⟩ := q3
      go_wp2_with (go_at_call 32; refine (isOf_lt 8 (by decide) _ _).mono ?_; rintro e w' ⟨rfl, rfl⟩)
      go_ret2
      exact ⟨by rw [encO_bad HO.out]; rfl, bW⟩
  · have ws' : well s true = false := by simpa using ws
    have HO : Hid (okB (sh k) s t d m = false) := by show okB _ _ _ _ _ = _; rw [hsh]; simp [okB, hasS, hasT, hasD, lt, ltL, ws']
    go_enter Tryz.func9, Tryz.ntmps9
    go_wp2_with (go_at_call 30; refine (rowOf_in k k0 k1 _).mono ?_; rintro e w1 ⟨rfl, hb1⟩)
    have bA : Below w.heap.size w w1 := ((Below.refl _ _).alloc (Nat.le_refl _) _).trans (hb1.mono (by simp))
    have bF : ∀ o, Below w.heap.size w (w1.alloc o) := fun o => bA.alloc bA.size _
    have c : ∀ q, w1.cell? ⟨w.heap.size, q, none⟩ = _ := fun q => hb1.cell (p := ⟨w.heap.size, q, none⟩) (by simp)
    have c0 := c 0
    have c1 := c 1
    have c2 := c 2
    have c3 := c 3
    have c4 := c 4
    clear c
    simp at c0 c1 c2 c3 c4
    have hz1 : w.heap.size < w1.heap.size := by have := hb1.size; simp at this; omega
    clear hb1
    have q0 : QF w.heap.size w1.heap.size w (w1.alloc (.cells #[.string ⟨(nme k).toArray⟩, .int .i64 (mj k), .int .i64 (0), .string ⟨(lt 8).toArray⟩, .string ⟨(ordr k).toArray⟩, .string ⟨(kindR k).toArray⟩] 67)) k s t d m ⟨(nme k).toArray⟩ (mj k) (0) ⟨(lt 8).toArray⟩ ⟨(ordr k).toArray⟩ ⟨(kindR k).toArray⟩ :=
      ⟨by rw [World.cell?_alloc_lt _ _ _ hz1]; exact c0, by rw [World.cell?_alloc_lt _ _ _ hz1]; exact c1, by rw [World.cell?_alloc_lt _ _ _ hz1]; exact c2, by rw [World.cell?_alloc_lt _ _ _ hz1]; exact c3, by rw [World.cell?_alloc_lt _ _ _ hz1]; exact c4, by simp, by simp, by simp, by simp, by simp, by simp, bF _⟩
    go_wp2_with fail
    generalize w1.alloc (.cells #[.string ⟨(nme k).toArray⟩, .int .i64 (mj k), .int .i64 (0), .string ⟨(lt 8).toArray⟩, .string ⟨(ordr k).toArray⟩, .string ⟨(kindR k).toArray⟩] 67) = W0 at q0 ⊢
    clear c0 c1 c2 c3 c4
    obtain ⟨c0, c1, c2, c3, c4, e0, e1, e2, e3, e4, e5, bW⟩ := q0
    go_quiet ((first | (go_at_call 32; exact Calls.quiet_of_same (isOf_lt 8 (by decide) _ _)) | (go_at_call 31; exact Calls.quiet_of_same (well_any _ _ _))))
    have q1 := (QF.mk c0 c1 c2 c3 c4 e0 e1 e2 e3 e4 e5 bW).drewN nq
    generalize W0.drewN nq = W1 at q1 ⊢
    clear c0 c1 c2 c3 c4 e0 e1 e2 e3 e4 e5 bW
    obtain ⟨c0, c1, c2, c3, c4, e0, e1, e2, e3, e4, e5, bW⟩ := q1
    go_wp2_with fail
    go_quiet ((first | (go_at_call 32; exact Calls.quiet_of_same (isOf_lt 8 (by decide) _ _)) | (go_at_call 31; exact Calls.quiet_of_same (well_any _ _ _))))
    have q2 := (QF.mk c0 c1 c2 c3 c4 e0 e1 e2 e3 e4 e5 bW).drewN nq
    generalize W1.drewN nq = W2 at q2 ⊢
    clear c0 c1 c2 c3 c4 e0 e1 e2 e3 e4 e5 bW
    obtain ⟨c0, c1, c2, c3, c4, e0, e1, e2, e3, e4, e5, bW⟩ := q2
    go_wp2_with fail
    go_quiet ((first | (go_at_call 32; exact Calls.quiet_of_same (isOf_lt 8 (by decide) _ _)) | (go_at_call 31; exact Calls.quiet_of_same (well_any _ _ _))))
    have q3 := (QF.mk c0 c1 c2 c3 c4 e0 e1 e2 e3 e4 e5 bW).drewN nq
    generalize W2.drewN nq = W3 at q3 ⊢
    clear c0 c1 c2 c3 c4 e0 e1 e2 e3 e4 e5 bW
    obtain ⟨c0, c1, c2, c3, c4, e0, e1, e2, e3, e4, e5, bW⟩ := q3
    go_wp2_with (go_at_call 32; refine (isOf_lt 8 (by decide) _ _).mono ?_; rintro e w' ⟨rfl, rfl⟩)
    go_ret2
    exact ⟨by rw [encO_bad HO.out]; rfl, bW⟩
set_option maxHeartbeats 4000000 in
theorem encodeOf_9 (k : Nat) (h1 : 1 ≤ k) (hk : k < 54) (hsh : sh k = 9) (M0 : 1 ≤ mj k) (M1 : mj k < 64) (M2 : mj k ≠ 16) (hN : mn k = 0) (hfst : fst k = mj k * 67108864) (s t d m : Int) (m0 : 0 ≤ m) (m1 : m < 4294967296) (w : World) :
    Calls Tryz.prog 9 #[ins k s t d m] w fun e w' => e = .returned (encO k s t d m) ∧ Below w.heap.size w w' := by
  have k0 : (1 : Int) ≤ k := by omega
  have k1 : (k : Int) < 54 := by omega
  have hfl : flds k = lt 9 := by show lt (sh k) = _; rw [hsh]
  have f83 : hasB (lt 9) 83 = true := by decide
  have f84 : hasB (lt 9) 84 = false := by decide
  have f68 : hasB (lt 9) 68 = false := by decide
  have f97 : hasB (lt 9) 97 = false := by decide
  have f105 : hasB (lt 9) 105 = true := by decide
  have f106 : hasB (lt 9) 106 = false := by decide
  have g0 : (mj k == 0) = false := by simp; omega
  have g16 : (mj k == 16) = false := by simpa using M2
  by_cases ws : well s true = true
  · have bs := well_of ws
    by_cases wt : well t false = true
    · have bt := well_of wt
      by_cases wd : well d false = true
      · have bd := well_of wd
        simp at bs bt bd
        subst bt
        subst bd
        by_cases hm : m ≤ 65535
        · have HO : Hid (okB (sh k) s 0 0 m = true) := by show okB _ _ _ _ _ = _; rw [hsh]; simp [okB, hasS, hasT, hasD, hasI, hasJ, top, lt, ltL]; exact (by first | exact ⟨⟨⟨ws, wt⟩, wd⟩, by omega⟩ | (refine ⟨?_, by omega⟩; simp_all) | simp_all)
          have HE : Hid (enc k s 0 0 m = mj k * 67108864 + s * 2097152 + 0 * 65536 + 0 * 2048 + m * 1) := by show enc k _ _ _ m = _; unfold enc by_; rw [hsh, hfst]; simp [hasA, lt, ltL]
          go_enter Tryz.func9, Tryz.ntmps9
          go_wp2_with (go_at_call 30; refine (rowOf_in k k0 k1 _).mono ?_; rintro e w1 ⟨rfl, hb1⟩)
          have bA : Below w.heap.size w w1 := ((Below.refl _ _).alloc (Nat.le_refl _) _).trans (hb1.mono (by simp))
          have bF : ∀ o, Below w.heap.size w (w1.alloc o) := fun o => bA.alloc bA.size _
          have c : ∀ q, w1.cell? ⟨w.heap.size, q, none⟩ = _ := fun q => hb1.cell (p := ⟨w.heap.size, q, none⟩) (by simp)
          have c0 := c 0
          have c1 := c 1
          have c2 := c 2
          have c3 := c 3
          have c4 := c 4
          clear c
          simp at c0 c1 c2 c3 c4
          have hz1 : w.heap.size < w1.heap.size := by have := hb1.size; simp at this; omega
          clear hb1
          have q0 : QF w.heap.size w1.heap.size w (w1.alloc (.cells #[.string ⟨(nme k).toArray⟩, .int .i64 (mj k), .int .i64 (0), .string ⟨(lt 9).toArray⟩, .string ⟨(ordr k).toArray⟩, .string ⟨(kindR k).toArray⟩] 67)) k s 0 0 m ⟨(nme k).toArray⟩ (mj k) (0) ⟨(lt 9).toArray⟩ ⟨(ordr k).toArray⟩ ⟨(kindR k).toArray⟩ :=
            ⟨by rw [World.cell?_alloc_lt _ _ _ hz1]; exact c0, by rw [World.cell?_alloc_lt _ _ _ hz1]; exact c1, by rw [World.cell?_alloc_lt _ _ _ hz1]; exact c2, by rw [World.cell?_alloc_lt _ _ _ hz1]; exact c3, by rw [World.cell?_alloc_lt _ _ _ hz1]; exact c4, by simp, by simp, by simp, by simp, by simp, by simp, bF _⟩
          go_wp2_with fail
          generalize w1.alloc (.cells #[.string ⟨(nme k).toArray⟩, .int .i64 (mj k), .int .i64 (0), .string ⟨(lt 9).toArray⟩, .string ⟨(ordr k).toArray⟩, .string ⟨(kindR k).toArray⟩] 67) = W0 at q0 ⊢
          clear c0 c1 c2 c3 c4
          obtain ⟨c0, c1, c2, c3, c4, e0, e1, e2, e3, e4, e5, bW⟩ := q0
          go_quiet ((first | (go_at_call 32; exact Calls.quiet_of_same (isOf_lt 9 (by decide) _ _)) | (go_at_call 31; exact Calls.quiet_of_same (well_any _ _ _))))
          have q1 := (QF.mk c0 c1 c2 c3 c4 e0 e1 e2 e3 e4 e5 bW).drewN nq
          generalize W0.drewN nq = W1 at q1 ⊢
          clear c0 c1 c2 c3 c4 e0 e1 e2 e3 e4 e5 bW
          obtain ⟨c0, c1, c2, c3, c4, e0, e1, e2, e3, e4, e5, bW⟩ := q1
          go_wp2_with fail
          go_quiet ((first | (go_at_call 32; exact Calls.quiet_of_same (isOf_lt 9 (by decide) _ _)) | (go_at_call 31; exact Calls.quiet_of_same (well_any _ _ _))))
          have q2 := (QF.mk c0 c1 c2 c3 c4 e0 e1 e2 e3 e4 e5 bW).drewN nq
          generalize W1.drewN nq = W2 at q2 ⊢
          clear c0 c1 c2 c3 c4 e0 e1 e2 e3 e4 e5 bW
          obtain ⟨c0, c1, c2, c3, c4, e0, e1, e2, e3, e4, e5, bW⟩ := q2
          go_wp2_with fail
          go_quiet ((first | (go_at_call 32; exact Calls.quiet_of_same (isOf_lt 9 (by decide) _ _)) | (go_at_call 31; exact Calls.quiet_of_same (well_any _ _ _))))
          have q3 := (QF.mk c0 c1 c2 c3 c4 e0 e1 e2 e3 e4 e5 bW).drewN nq
          generalize W2.drewN nq = W3 at q3 ⊢
          clear c0 c1 c2 c3 c4 e0 e1 e2 e3 e4 e5 bW
          obtain ⟨c0, c1, c2, c3, c4, e0, e1, e2, e3, e4, e5, bW⟩ := q3
          go_wp2_with (go_at_call 32; refine (isOf_lt 9 (by decide) _ _).mono ?_; rintro e w' ⟨rfl, rfl⟩)
          go_ret2
          exact ⟨by rw [encO_ok HO.out, HE.out]; exact ret_oo (by omega) rfl, bW⟩
        · have hm' : 65535 < m := by omega
          have HO : Hid (okB (sh k) s 0 0 m = false) := by show okB _ _ _ _ _ = _; rw [hsh]; simp [okB, hasS, hasT, hasD, hasI, hasJ, top, lt, ltL]; intros; omega
          go_enter Tryz.func9, Tryz.ntmps9
          go_wp2_with (go_at_call 30; refine (rowOf_in k k0 k1 _).mono ?_; rintro e w1 ⟨rfl, hb1⟩)
          have bA : Below w.heap.size w w1 := ((Below.refl _ _).alloc (Nat.le_refl _) _).trans (hb1.mono (by simp))
          have bF : ∀ o, Below w.heap.size w (w1.alloc o) := fun o => bA.alloc bA.size _
          have c : ∀ q, w1.cell? ⟨w.heap.size, q, none⟩ = _ := fun q => hb1.cell (p := ⟨w.heap.size, q, none⟩) (by simp)
          have c0 := c 0
          have c1 := c 1
          have c2 := c 2
          have c3 := c 3
          have c4 := c 4
          clear c
          simp at c0 c1 c2 c3 c4
          have hz1 : w.heap.size < w1.heap.size := by have := hb1.size; simp at this; omega
          clear hb1
          have q0 : QF w.heap.size w1.heap.size w (w1.alloc (.cells #[.string ⟨(nme k).toArray⟩, .int .i64 (mj k), .int .i64 (0), .string ⟨(lt 9).toArray⟩, .string ⟨(ordr k).toArray⟩, .string ⟨(kindR k).toArray⟩] 67)) k s 0 0 m ⟨(nme k).toArray⟩ (mj k) (0) ⟨(lt 9).toArray⟩ ⟨(ordr k).toArray⟩ ⟨(kindR k).toArray⟩ :=
            ⟨by rw [World.cell?_alloc_lt _ _ _ hz1]; exact c0, by rw [World.cell?_alloc_lt _ _ _ hz1]; exact c1, by rw [World.cell?_alloc_lt _ _ _ hz1]; exact c2, by rw [World.cell?_alloc_lt _ _ _ hz1]; exact c3, by rw [World.cell?_alloc_lt _ _ _ hz1]; exact c4, by simp, by simp, by simp, by simp, by simp, by simp, bF _⟩
          go_wp2_with fail
          generalize w1.alloc (.cells #[.string ⟨(nme k).toArray⟩, .int .i64 (mj k), .int .i64 (0), .string ⟨(lt 9).toArray⟩, .string ⟨(ordr k).toArray⟩, .string ⟨(kindR k).toArray⟩] 67) = W0 at q0 ⊢
          clear c0 c1 c2 c3 c4
          obtain ⟨c0, c1, c2, c3, c4, e0, e1, e2, e3, e4, e5, bW⟩ := q0
          go_quiet ((first | (go_at_call 32; exact Calls.quiet_of_same (isOf_lt 9 (by decide) _ _)) | (go_at_call 31; exact Calls.quiet_of_same (well_any _ _ _))))
          have q1 := (QF.mk c0 c1 c2 c3 c4 e0 e1 e2 e3 e4 e5 bW).drewN nq
          generalize W0.drewN nq = W1 at q1 ⊢
          clear c0 c1 c2 c3 c4 e0 e1 e2 e3 e4 e5 bW
          obtain ⟨c0, c1, c2, c3, c4, e0, e1, e2, e3, e4, e5, bW⟩ := q1
          go_wp2_with fail
          go_quiet ((first | (go_at_call 32; exact Calls.quiet_of_same (isOf_lt 9 (by decide) _ _)) | (go_at_call 31; exact Calls.quiet_of_same (well_any _ _ _))))
          have q2 := (QF.mk c0 c1 c2 c3 c4 e0 e1 e2 e3 e4 e5 bW).drewN nq
          generalize W1.drewN nq = W2 at q2 ⊢
          clear c0 c1 c2 c3 c4 e0 e1 e2 e3 e4 e5 bW
          obtain ⟨c0, c1, c2, c3, c4, e0, e1, e2, e3, e4, e5, bW⟩ := q2
          go_wp2_with fail
          go_quiet ((first | (go_at_call 32; exact Calls.quiet_of_same (isOf_lt 9 (by decide) _ _)) | (go_at_call 31; exact Calls.quiet_of_same (well_any _ _ _))))
          have q3 := (QF.mk c0 c1 c2 c3 c4 e0 e1 e2 e3 e4 e5 bW).drewN nq
          generalize W2.drewN nq = W3 at q3 ⊢
          clear c0 c1 c2 c3 c4 e0 e1 e2 e3 e4 e5 bW
          obtain ⟨c0, c1, c2, c3, c4, e0, e1, e2, e3, e4, e5, bW⟩ := q3
          go_wp2_with (go_at_call 32; refine (isOf_lt 9 (by decide) _ _).mono ?_; rintro e w' ⟨rfl, rfl⟩)
          go_ret2
          exact ⟨by rw [encO_bad HO.out]; rfl, bW⟩
      · have wd' : well d false = false := by simpa using wd
        have HO : Hid (okB (sh k) s t d m = false) := by show okB _ _ _ _ _ = _; rw [hsh]; simp [okB, hasS, hasT, hasD, lt, ltL, wd']
        go_enter Tryz.func9, Tryz.ntmps9
        go_wp2_with (go_at_call 30; refine (rowOf_in k k0 k1 _).mono ?_; rintro e w1 ⟨rfl, hb1⟩)
        have bA : Below w.heap.size w w1 := ((Below.refl _ _).alloc (Nat.le_refl _) _).trans (hb1.mono (by simp))
        have bF : ∀ o, Below w.heap.size w (w1.alloc o) := fun o => bA.alloc bA.size _
        have c : ∀ q, w1.cell? ⟨w.heap.size, q, none⟩ = _ := fun q => hb1.cell (p := ⟨w.heap.size, q, none⟩) (by simp)
        have c0 := c 0
        have c1 := c 1
        have c2 := c 2
        have c3 := c 3
        have c4 := c 4
        clear c
        simp at c0 c1 c2 c3 c4
        have hz1 : w.heap.size < w1.heap.size := by have := hb1.size; simp at this; omega
        clear hb1
        have q0 : QF w.heap.size w1.heap.size w (w1.alloc (.cells #[.string ⟨(nme k).toArray⟩, .int .i64 (mj k), .int .i64 (0), .string ⟨(lt 9).toArray⟩, .string ⟨(ordr k).toArray⟩, .string ⟨(kindR k).toArray⟩] 67)) k s t d m ⟨(nme k).toArray⟩ (mj k) (0) ⟨(lt 9).toArray⟩ ⟨(ordr k).toArray⟩ ⟨(kindR k).toArray⟩ :=
          ⟨by rw [World.cell?_alloc_lt _ _ _ hz1]; exact c0, by rw [World.cell?_alloc_lt _ _ _ hz1]; exact c1, by rw [World.cell?_alloc_lt _ _ _ hz1]; exact c2, by rw [World.cell?_alloc_lt _ _ _ hz1]; exact c3, by rw [World.cell?_alloc_lt _ _ _ hz1]; exact c4, by simp, by simp, by simp, by simp, by simp, by simp, bF _⟩
        go_wp2_with fail
        generalize w1.alloc (.cells #[.string ⟨(nme k).toArray⟩, .int .i64 (mj k), .int .i64 (0), .string ⟨(lt 9).toArray⟩, .string ⟨(ordr k).toArray⟩, .string ⟨(kindR k).toArray⟩] 67) = W0 at q0 ⊢
        clear c0 c1 c2 c3 c4
        obtain ⟨c0, c1, c2, c3, c4, e0, e1, e2, e3, e4, e5, bW⟩ := q0
        go_quiet ((first | (go_at_call 32; exact Calls.quiet_of_same (isOf_lt 9 (by decide) _ _)) | (go_at_call 31; exact Calls.quiet_of_same (well_any _ _ _))))
        have q1 := (QF.mk c0 c1 c2 c3 c4 e0 e1 e2 e3 e4 e5 bW).drewN nq
        generalize W0.drewN nq = W1 at q1 ⊢
        clear c0 c1 c2 c3 c4 e0 e1 e2 e3 e4 e5 bW
        obtain ⟨c0, c1, c2, c3, c4, e0, e1, e2, e3, e4, e5, bW⟩ := q1
        go_wp2_with fail
        go_quiet ((first | (go_at_call 32; exact Calls.quiet_of_same (isOf_lt 9 (by decide) _ _)) | (go_at_call 31; exact Calls.quiet_of_same (well_any _ _ _))))
        have q2 := (QF.mk c0 c1 c2 c3 c4 e0 e1 e2 e3 e4 e5 bW).drewN nq
        generalize W1.drewN nq = W2 at q2 ⊢
        clear c0 c1 c2 c3 c4 e0 e1 e2 e3 e4 e5 bW
        obtain ⟨c0, c1, c2, c3, c4, e0, e1, e2, e3, e4, e5, bW⟩ := q2
        go_wp2_with fail
        go_quiet ((first | (go_at_call 32; exact Calls.quiet_of_same (isOf_lt 9 (by decide) _ _)) | (go_at_call 31; exact Calls.quiet_of_same (well_any _ _ _))))
        have q3 := (QF.mk c0 c1 c2 c3 c4 e0 e1 e2 e3 e4 e5 bW).drewN nq
        generalize W2.drewN nq = W3 at q3 ⊢
        clear c0 c1 c2 c3 c4 e0 e1 e2 e3 e4 e5 bW
        obtain ⟨c0, c1, c2, c3, c4, e0, e1, e2, e3, e4, e5, bW⟩ := q3
        go_wp2_with (go_at_call 32; refine (isOf_lt 9 (by decide) _ _).mono ?_; rintro e w' ⟨rfl, rfl⟩)
        go_ret2
        exact ⟨by rw [encO_bad HO.out]; rfl, bW⟩
    · have wt' : well t false = false := by simpa using wt
      have HO : Hid (okB (sh k) s t d m = false) := by show okB _ _ _ _ _ = _; rw [hsh]; simp [okB, hasS, hasT, hasD, lt, ltL, wt']
      go_enter Tryz.func9, Tryz.ntmps9
      go_wp2_with (go_at_call 30; refine (rowOf_in k k0 k1 _).mono ?_; rintro e w1 ⟨rfl, hb1⟩)
      have bA : Below w.heap.size w w1 := ((Below.refl _ _).alloc (Nat.le_refl _) _).trans (hb1.mono (by simp))
      have bF : ∀ o, Below w.heap.size w (w1.alloc o) := fun o => bA.alloc bA.size _
      have c : ∀ q, w1.cell? ⟨w.heap.size, q, none⟩ = _ := fun q => hb1.cell (p := ⟨w.heap.size, q, none⟩) (by simp)
      have c0 := c 0
      have c1 := c 1
      have c2 := c 2
      have c3 := c 3
      have c4 := c 4
      clear c
      simp at c0 c1 c2 c3 c4
      have hz1 : w.heap.size < w1.heap.size := by have := hb1.size; simp at this; omega
      clear hb1
      have q0 : QF w.heap.size w1.heap.size w (w1.alloc (.cells #[.string ⟨(nme k).toArray⟩, .int .i64 (mj k), .int .i64 (0), .string ⟨(lt 9).toArray⟩, .string ⟨(ordr k).toArray⟩, .string ⟨(kindR k).toArray⟩] 67)) k s t d m ⟨(nme k).toArray⟩ (mj k) (0) ⟨(lt 9).toArray⟩ ⟨(ordr k).toArray⟩ ⟨(kindR k).toArray⟩ :=
        ⟨by rw [World.cell?_alloc_lt _ _ _ hz1]; exact c0, by rw [World.cell?_alloc_lt _ _ _ hz1]; exact c1, by rw [World.cell?_alloc_lt _ _ _ hz1]; exact c2, by rw [World.cell?_alloc_lt _ _ _ hz1]; exact c3, by rw [World.cell?_alloc_lt _ _ _ hz1]; exact c4, by simp, by simp, by simp, by simp, by simp, by simp, bF _⟩
      go_wp2_with fail
      generalize w1.alloc (.cells #[.string ⟨(nme k).toArray⟩, .int .i64 (mj k), .int .i64 (0), .string ⟨(lt 9).toArray⟩, .string ⟨(ordr k).toArray⟩, .string ⟨(kindR k).toArray⟩] 67) = W0 at q0 ⊢
      clear c0 c1 c2 c3 c4
      obtain ⟨c0, c1, c2, c3, c4, e0, e1, e2, e3, e4, e5, bW⟩ := q0
      go_quiet ((first | (go_at_call 32; exact Calls.quiet_of_same (isOf_lt 9 (by decide) _ _)) | (go_at_call 31; exact Calls.quiet_of_same (well_any _ _ _))))
      have q1 := (QF.mk c0 c1 c2 c3 c4 e0 e1 e2 e3 e4 e5 bW).drewN nq
      generalize W0.drewN nq = W1 at q1 ⊢
      clear c0 c1 c2 c3 c4 e0 e1 e2 e3 e4 e5 bW
      obtain ⟨c0, c1, c2, c3, c4, e0, e1, e2, e3, e4, e5, bW⟩ := q1
      go_wp2_with fail
      go_quiet ((first | (go_at_call 32; exact Calls.quiet_of_same (isOf_lt 9 (by decide) _ _)) | (go_at_call 31; exact Calls.quiet_of_same (well_any _ _ _))))
      have q2 := (QF.mk c0 c1 c2 c3 c4 e0 e1 e2 e3 e4 e5 bW).drewN nq
      generalize W1.drewN nq = W2 at q2 ⊢
      clear c0 c1 c2 c3 c4 e0 e1 e2 e3 e4 e5 bW
      obtain ⟨c0, c1, c2, c3, c4, e0, e1, e2, e3, e4, e5, bW⟩ := q2
      go_wp2_with fail
      go_quiet ((first | (go_at_call 32; exact Calls.quiet_of_same (isOf_lt 9 (by decide) _ _)) | (go_at_call 31; exact Calls.quiet_of_same (well_any _ _ _))))
      have q3 := (QF.mk c0 c1 c2 c3 c4 e0 e1 e2 e3 e4 e5 bW).drewN nq
      generalize W2.drewN nq = W3 at q3 ⊢
      clear c0 c1 c2 c3 c4 e0 e1 e2 e3 e4 e5 bW
      obtain ⟨c0, c1, c2, c3, c4, e0, e1, e2, e3, e4, e5, bW⟩ := q3
      go_wp2_with (go_at_call 32; refine (isOf_lt 9 (by decide) _ _).mono ?_; rintro e w' ⟨rfl, rfl⟩)
      go_ret2
      exact ⟨by rw [encO_bad HO.out]; rfl, bW⟩
  · have ws' : well s true = false := by simpa using ws
    have HO : Hid (okB (sh k) s t d m = false) := by show okB _ _ _ _ _ = _; rw [hsh]; simp [okB, hasS, hasT, hasD, lt, ltL, ws']
    go_enter Tryz.func9, Tryz.ntmps9
    go_wp2_with (go_at_call 30; refine (rowOf_in k k0 k1 _).mono ?_; rintro e w1 ⟨rfl, hb1⟩)
    have bA : Below w.heap.size w w1 := ((Below.refl _ _).alloc (Nat.le_refl _) _).trans (hb1.mono (by simp))
    have bF : ∀ o, Below w.heap.size w (w1.alloc o) := fun o => bA.alloc bA.size _
    have c : ∀ q, w1.cell? ⟨w.heap.size, q, none⟩ = _ := fun q => hb1.cell (p := ⟨w.heap.size, q, none⟩) (by simp)
    have c0 := c 0
    have c1 := c 1
    have c2 := c 2
    have c3 := c 3
    have c4 := c 4
    clear c
    simp at c0 c1 c2 c3 c4
    have hz1 : w.heap.size < w1.heap.size := by have := hb1.size; simp at this; omega
    clear hb1
    have q0 : QF w.heap.size w1.heap.size w (w1.alloc (.cells #[.string ⟨(nme k).toArray⟩, .int .i64 (mj k), .int .i64 (0), .string ⟨(lt 9).toArray⟩, .string ⟨(ordr k).toArray⟩, .string ⟨(kindR k).toArray⟩] 67)) k s t d m ⟨(nme k).toArray⟩ (mj k) (0) ⟨(lt 9).toArray⟩ ⟨(ordr k).toArray⟩ ⟨(kindR k).toArray⟩ :=
      ⟨by rw [World.cell?_alloc_lt _ _ _ hz1]; exact c0, by rw [World.cell?_alloc_lt _ _ _ hz1]; exact c1, by rw [World.cell?_alloc_lt _ _ _ hz1]; exact c2, by rw [World.cell?_alloc_lt _ _ _ hz1]; exact c3, by rw [World.cell?_alloc_lt _ _ _ hz1]; exact c4, by simp, by simp, by simp, by simp, by simp, by simp, bF _⟩
    go_wp2_with fail
    generalize w1.alloc (.cells #[.string ⟨(nme k).toArray⟩, .int .i64 (mj k), .int .i64 (0), .string ⟨(lt 9).toArray⟩, .string ⟨(ordr k).toArray⟩, .string ⟨(kindR k).toArray⟩] 67) = W0 at q0 ⊢
    clear c0 c1 c2 c3 c4
    obtain ⟨c0, c1, c2, c3, c4, e0, e1, e2, e3, e4, e5, bW⟩ := q0
    go_quiet ((first | (go_at_call 32; exact Calls.quiet_of_same (isOf_lt 9 (by decide) _ _)) | (go_at_call 31; exact Calls.quiet_of_same (well_any _ _ _))))
    have q1 := (QF.mk c0 c1 c2 c3 c4 e0 e1 e2 e3 e4 e5 bW).drewN nq
    generalize W0.drewN nq = W1 at q1 ⊢
    clear c0 c1 c2 c3 c4 e0 e1 e2 e3 e4 e5 bW
    obtain ⟨c0, c1, c2, c3, c4, e0, e1, e2, e3, e4, e5, bW⟩ := q1
    go_wp2_with fail
    go_quiet ((first | (go_at_call 32; exact Calls.quiet_of_same (isOf_lt 9 (by decide) _ _)) | (go_at_call 31; exact Calls.quiet_of_same (well_any _ _ _))))
    have q2 := (QF.mk c0 c1 c2 c3 c4 e0 e1 e2 e3 e4 e5 bW).drewN nq
    generalize W1.drewN nq = W2 at q2 ⊢
    clear c0 c1 c2 c3 c4 e0 e1 e2 e3 e4 e5 bW
    obtain ⟨c0, c1, c2, c3, c4, e0, e1, e2, e3, e4, e5, bW⟩ := q2
    go_wp2_with fail
    go_quiet ((first | (go_at_call 32; exact Calls.quiet_of_same (isOf_lt 9 (by decide) _ _)) | (go_at_call 31; exact Calls.quiet_of_same (well_any _ _ _))))
    have q3 := (QF.mk c0 c1 c2 c3 c4 e0 e1 e2 e3 e4 e5 bW).drewN nq
    generalize W2.drewN nq = W3 at q3 ⊢
    clear c0 c1 c2 c3 c4 e0 e1 e2 e3 e4 e5 bW
    obtain ⟨c0, c1, c2, c3, c4, e0, e1, e2, e3, e4, e5, bW⟩ := q3
    go_wp2_with (go_at_call 32; refine (isOf_lt 9 (by decide) _ _).mono ?_; rintro e w' ⟨rfl, rfl⟩)
    go_ret2
    exact ⟨by rw [encO_bad HO.out]; rfl, bW⟩
set_option maxHeartbeats 4000000 in
theorem encodeOf_10 (k : Nat) (h1 : 1 ≤ k) (hk : k < 54) (hsh : sh k = 10) (M0 : 1 ≤ mj k) (M1 : mj k < 64) (M2 : mj k ≠ 16) (hN : mn k = 0) (hfst : fst k = mj k * 67108864) (s t d m : Int) (m0 : 0 ≤ m) (m1 : m < 4294967296) (w : World) :
    Calls Tryz.prog 9 #[ins k s t d m] w fun e w' => e = .returned (encO k s t d m) ∧ Below w.heap.size w w' := by
  have k0 : (1 : Int) ≤ k := by omega
  have k1 : (k : Int) < 54 := by omega
  have hfl : flds k = lt 10 := by show lt (sh k) = _; rw [hsh]
  have f83 : hasB (lt 10) 83 = false := by decide
  have f84 : hasB (lt 10) 84 = true := by decide
  have f68 : hasB (lt 10) 68 = false := by decide
  have f97 : hasB (lt 10) 97 = false := by decide
  have f105 : hasB (lt 10) 105 = true := by decide
  have f106 : hasB (lt 10) 106 = false := by decide
  have g0 : (mj k == 0) = false := by simp; omega
  have g16 : (mj k == 16) = false := by simpa using M2
  by_cases ws : well s false = true
  · have bs := well_of ws
    by_cases wt : well t true = true
    · have bt := well_of wt
      by_cases wd : well d false = true
      · have bd := well_of wd
        simp at bs bt bd
        subst bs
        subst bd
        by_cases hm : m ≤ 65535
        · have HO : Hid (okB (sh k) 0 t 0 m = true) := by show okB _ _ _ _ _ = _; rw [hsh]; simp [okB, hasS, hasT, hasD, hasI, hasJ, top, lt, ltL]; exact (by first | exact ⟨⟨⟨ws, wt⟩, wd⟩, by omega⟩ | (refine ⟨?_, by omega⟩; simp_all) | simp_all)
          have HE : Hid (enc k 0 t 0 m = mj k * 67108864 + 0 * 2097152 + t * 65536 + 0 * 2048 + m * 1) := by show enc k _ _ _ m = _; unfold enc by_; rw [hsh, hfst]; simp [hasA, lt, ltL]
          go_enter Tryz.func9, Tryz.ntmps9
          go_wp2_with (go_at_call 30; refine (rowOf_in k k0 k1 _).mono ?_; rintro e w1 ⟨rfl, hb1⟩)
          have bA : Below w.heap.size w w1 := ((Below.refl _ _).alloc (Nat.le_refl _) _).trans (hb1.mono (by simp))
          have bF : ∀ o, Below w.heap.size w (w1.alloc o) := fun o => bA.alloc bA.size _
          have c : ∀ q, w1.cell? ⟨w.heap.size, q, none⟩ = _ := fun q => hb1.cell (p := ⟨w.heap.size, q, none⟩) (by simp)
          have c0 := c 0
          have c1 := c 1
          have c2 := c 2
          have c3 := c 3
          have c4 := c 4
          clear c
          simp at c0 c1 c2 c3 c4
          have hz1 : w.heap.size < w1.heap.size := by have := hb1.size; simp at this; omega
          clear hb1
          have q0 : QF w.heap.size w1.heap.size w (w1.alloc (.cells #[.string ⟨(nme k).toArray⟩, .int .i64 (mj k), .int .i64 (0), .string ⟨(lt 10).toArray⟩, .string ⟨(ordr k).toArray⟩, .string ⟨(kindR k).toArray⟩] 67)) k 0 t 0 m ⟨(nme k).toArray⟩ (mj k) (0) ⟨(lt 10).toArray⟩ ⟨(ordr k).toArray⟩ ⟨(kindR k).toArray⟩ :=
            ⟨by rw [World.cell?_alloc_lt _ _ _ hz1]; exact c0, by rw [World.cell?_alloc_lt _ _ _ hz1]; exact c1, by rw [World.cell?_alloc_lt _ _ _ hz1]; exact c2, by rw [World.cell?_alloc_lt _ _ _ hz1]; exact c3, by rw [World.cell?_alloc_lt _ _ _ hz1]; exact c4, by simp, by simp, by simp, by simp, by simp, by simp, bF _⟩
          go_wp2_with fail
          generalize w1.alloc (.cells #[.string ⟨(nme k).toArray⟩, .int .i64 (mj k), .int .i64 (0), .string ⟨(lt 10).toArray⟩, .string ⟨(ordr k).toArray⟩, .string ⟨(kindR k).toArray⟩] 67) = W0 at q0 ⊢
          clear c0 c1 c2 c3 c4
          obtain ⟨c0, c1, c2, c3, c4, e0, e1, e2, e3, e4, e5, bW⟩ := q0
          go_quiet ((first | (go_at_call 32; exact Calls.quiet_of_same (isOf_lt 10 (by decide) _ _)) | (go_at_call 31; exact Calls.quiet_of_same (well_any _ _ _))))
          have q1 := (QF.mk c0 c1 c2 c3 c4 e0 e1 e2 e3 e4 e5 bW).drewN nq
          generalize W0.drewN nq = W1 at q1 ⊢
          clear c0 c1 c2 c3 c4 e0 e1 e2 e3 e4 e5 bW
          obtain ⟨c0, c1, c2, c3, c4, e0, e1, e2, e3, e4, e5, bW⟩ := q1
          go_wp2_with fail
          go_quiet ((first | (go_at_call 32; exact Calls.quiet_of_same (isOf_lt 10 (by decide) _ _)) | (go_at_call 31; exact Calls.quiet_of_same (well_any _ _ _))))
          have q2 := (QF.mk c0 c1 c2 c3 c4 e0 e1 e2 e3 e4 e5 bW).drewN nq
          generalize W1.drewN nq = W2 at q2 ⊢
          clear c0 c1 c2 c3 c4 e0 e1 e2 e3 e4 e5 bW
          obtain ⟨c0, c1, c2, c3, c4, e0, e1, e2, e3, e4, e5, bW⟩ := q2
          go_wp2_with fail
          go_quiet ((first | (go_at_call 32; exact Calls.quiet_of_same (isOf_lt 10 (by decide) _ _)) | (go_at_call 31; exact Calls.quiet_of_same (well_any _ _ _))))
          have q3 := (QF.mk c0 c1 c2 c3 c4 e0 e1 e2 e3 e4 e5 bW).drewN nq
          generalize W2.drewN nq = W3 at q3 ⊢
          clear c0 c1 c2 c3 c4 e0 e1 e2 e3 e4 e5 bW
          obtain ⟨c0, c1, c2, c3, c4, e0, e1, e2, e3, e4, e5, bW⟩ := q3
          go_wp2_with (go_at_call 32; refine (isOf_lt 10 (by decide) _ _).mono ?_; rintro e w' ⟨rfl, rfl⟩)
          go_ret2
          exact ⟨by rw [encO_ok HO.out, HE.out]; exact ret_oo (by omega) rfl, bW⟩
        · have hm' : 65535 < m := by omega
          have HO : Hid (okB (sh k) 0 t 0 m = false) := by show okB _ _ _ _ _ = _; rw [hsh]; simp [okB, hasS, hasT, hasD, hasI, hasJ, top, lt, ltL]; intros; omega
          go_enter Tryz.func9, Tryz.ntmps9
          go_wp2_with (go_at_call 30; refine (rowOf_in k k0 k1 _).mono ?_; rintro e w1 ⟨rfl, hb1⟩)
          have bA : Below w.heap.size w w1 := ((Below.refl _ _).alloc (Nat.le_refl _) _).trans (hb1.mono (by simp))
          have bF : ∀ o, Below w.heap.size w (w1.alloc o) := fun o => bA.alloc bA.size _
          have c : ∀ q, w1.cell? ⟨w.heap.size, q, none⟩ = _ := fun q => hb1.cell (p := ⟨w.heap.size, q, none⟩) (by simp)
          have c0 := c 0
          have c1 := c 1
          have c2 := c 2
          have c3 := c 3
          have c4 := c 4
          clear c
          simp at c0 c1 c2 c3 c4
          have hz1 : w.heap.size < w1.heap.size := by have := hb1.size; simp at this; omega
          clear hb1
          have q0 : QF w.heap.size w1.heap.size w (w1.alloc (.cells #[.string ⟨(nme k).toArray⟩, .int .i64 (mj k), .int .i64 (0), .string ⟨(lt 10).toArray⟩, .string ⟨(ordr k).toArray⟩, .string ⟨(kindR k).toArray⟩] 67)) k 0 t 0 m ⟨(nme k).toArray⟩ (mj k) (0) ⟨(lt 10).toArray⟩ ⟨(ordr k).toArray⟩ ⟨(kindR k).toArray⟩ :=
            ⟨by rw [World.cell?_alloc_lt _ _ _ hz1]; exact c0, by rw [World.cell?_alloc_lt _ _ _ hz1]; exact c1, by rw [World.cell?_alloc_lt _ _ _ hz1]; exact c2, by rw [World.cell?_alloc_lt _ _ _ hz1]; exact c3, by rw [World.cell?_alloc_lt _ _ _ hz1]; exact c4, by simp, by simp, by simp, by simp, by simp, by simp, bF _⟩
          go_wp2_with fail
          generalize w1.alloc (.cells #[.string ⟨(nme k).toArray⟩, .int .i64 (mj k), .int .i64 (0), .string ⟨(lt 10).toArray⟩, .string ⟨(ordr k).toArray⟩, .string ⟨(kindR k).toArray⟩] 67) = W0 at q0 ⊢
          clear c0 c1 c2 c3 c4
          obtain ⟨c0, c1, c2, c3, c4, e0, e1, e2, e3, e4, e5, bW⟩ := q0
          go_quiet ((first | (go_at_call 32; exact Calls.quiet_of_same (isOf_lt 10 (by decide) _ _)) | (go_at_call 31; exact Calls.quiet_of_same (well_any _ _ _))))
          have q1 := (QF.mk c0 c1 c2 c3 c4 e0 e1 e2 e3 e4 e5 bW).drewN nq
          generalize W0.drewN nq = W1 at q1 ⊢
          clear c0 c1 c2 c3 c4 e0 e1 e2 e3 e4 e5 bW
          obtain ⟨c0, c1, c2, c3, c4, e0, e1, e2, e3, e4, e5, bW⟩ := q1
          go_wp2_with fail
          go_quiet ((first | (go_at_call 32; exact Calls.quiet_of_same (isOf_lt 10 (by decide) _ _)) | (go_at_call 31; exact Calls.quiet_of_same (well_any _ _ _))))
          have q2 := (QF.mk c0 c1 c2 c3 c4 e0 e1 e2 e3 e4 e5 bW).drewN nq
          generalize W1.drewN nq = W2 at q2 ⊢
          clear c0 c1 c2 c3 c4 e0 e1 e2 e3 e4 e5 bW
          obtain ⟨c0, c1, c2, c3, c4, e0, e1, e2, e3, e4, e5, bW⟩ := q2
          go_wp2_with fail
          go_quiet ((first | (go_at_call 32; exact Calls.quiet_of_same (isOf_lt 10 (by decide) _ _)) | (go_at_call 31; exact Calls.quiet_of_same (well_any _ _ _))))
          have q3 := (QF.mk c0 c1 c2 c3 c4 e0 e1 e2 e3 e4 e5 bW).drewN nq
          generalize W2.drewN nq = W3 at q3 ⊢
          clear c0 c1 c2 c3 c4 e0 e1 e2 e3 e4 e5 bW
          obtain ⟨c0, c1, c2, c3, c4, e0, e1, e2, e3, e4, e5, bW⟩ := q3
          go_wp2_with (go_at_call 32; refine (isOf_lt 10 (by decide) _ _).mono ?_; rintro e w' ⟨rfl, rfl⟩)
          go_ret2
          exact ⟨by rw [encO_bad HO.out]; rfl, bW⟩
      · have wd' : well d false = false := by simpa using wd
        have HO : Hid (okB (sh k) s t d m = false) := by show okB _ _ _ _ _ = _; rw [hsh]; simp [okB, hasS, hasT, hasD, lt, ltL, wd']
        go_enter Tryz.func9, Tryz.ntmps9
        go_wp2_with (go_at_call 30; refine (rowOf_in k k0 k1 _).mono ?_; rintro e w1 ⟨rfl, hb1⟩)
        have bA : Below w.heap.size w w1 := ((Below.refl _ _).alloc (Nat.le_refl _) _).trans (hb1.mono (by simp))
        have bF : ∀ o, Below w.heap.size w (w1.alloc o) := fun o => bA.alloc bA.size _
        have c : ∀ q, w1.cell? ⟨w.heap.size, q, none⟩ = _ := fun q => hb1.cell (p := ⟨w.heap.size, q, none⟩) (by simp)
        have c0 := c 0
        have c1 := c 1
        have c2 := c 2
        have c3 := c 3
        have c4 := c 4
        clear c
        simp at c0 c1 c2 c3 c4
        have hz1 : w.heap.size < w1.heap.size := by have := hb1.size; simp at this; omega
        clear hb1
        have q0 : QF w.heap.size w1.heap.size w (w1.alloc (.cells #[.string ⟨(nme k).toArray⟩, .int .i64 (mj k), .int .i64 (0), .string ⟨(lt 10).toArray⟩, .string ⟨(ordr k).toArray⟩, .string ⟨(kindR k).toArray⟩] 67)) k s t d m ⟨(nme k).toArray⟩ (mj k) (0) ⟨(lt 10).toArray⟩ ⟨(ordr k).toArray⟩ ⟨(kindR k).toArray⟩ :=
          ⟨by rw [World.cell?_alloc_lt _ _ _ hz1]; exact c0, by rw [World.cell?_alloc_lt _ _ _ hz1]; exact c1, by rw [World.cell?_alloc_lt _ _ _ hz1]; exact c2, by rw [World.cell?_alloc_lt _ _ _ hz1]; exact c3, by rw [World.cell?_alloc_lt _ _ _ hz1]; exact c4, by simp, by simp, by simp, by simp, by simp, by simp, bF _⟩
        go_wp2_with fail
        generalize w1.alloc (.cells #[.string ⟨(nme k).toArray⟩, .int .i64 (mj k), .int .i64 (0), .string ⟨(lt 10).toArray⟩, .string ⟨(ordr k).toArray⟩, .string ⟨(kindR k).toArray⟩] 67) = W0 at q0 ⊢
        clear c0 c1 c2 c3 c4
        obtain ⟨c0, c1, c2, c3, c4, e0, e1, e2, e3, e4, e5, bW⟩ := q0
        go_quiet ((first | (go_at_call 32; exact Calls.quiet_of_same (isOf_lt 10 (by decide) _ _)) | (go_at_call 31; exact Calls.quiet_of_same (well_any _ _ _))))
        have q1 := (QF.mk c0 c1 c2 c3 c4 e0 e1 e2 e3 e4 e5 bW).drewN nq
        generalize W0.drewN nq = W1 at q1 ⊢
        clear c0 c1 c2 c3 c4 e0 e1 e2 e3 e4 e5 bW
        obtain ⟨c0, c1, c2, c3, c4, e0, e1, e2, e3, e4, e5, bW⟩ := q1
        go_wp2_with fail
        go_quiet ((first | (go_at_call 32; exact Calls.quiet_of_same (isOf_lt 10 (by decide) _ _)) | (go_at_call 31; exact Calls.quiet_of_same (well_any _ _ _))))
        have q2 := (QF.mk c0 c1 c2 c3 c4 e0 e1 e2 e3 e4 e5 bW).drewN nq
        generalize W1.drewN nq = W2 at q2 ⊢
        clear c0 c1 c2 c3 c4 e0 e1 e2 e3 e4 e5 bW
        obtain ⟨c0, c1, c2, c3, c4, e0, e1, e2, e3, e4, e5, bW⟩ := q2
        go_wp2_with fail
        go_quiet ((first | (go_at_call 32; exact Calls.quiet_of_same (isOf_lt 10 (by decide) _ _)) | (go_at_call 31; exact Calls.quiet_of_same (well_any _ _ _))))
        have q3 := (QF.mk c0 c1 c2 c3 c4 e0 e1 e2 e3 e4 e5 bW).drewN nq
        generalize W2.drewN nq = W3 at q3 ⊢
        clear c0 c1 c2 c3 c4 e0 e1 e2 e3 e4 e5 bW
        obtain ⟨c0, c1, c2, c3, c4, e0, e1, e2, e3, e4, e5, bW⟩ := q3
        go_wp2_with (go_at_call 32; refine (isOf_lt 10 (by decide) _ _).mono ?_; rintro e w' ⟨rfl, rfl⟩)
        go_ret2
        exact ⟨by rw [encO_bad HO.out]; rfl, bW⟩
    · have wt' : well t true = false := by simpa using wt
      have HO : Hid (okB (sh k) s t d m = false) := by show okB _ _ _ _ _ = _; rw [hsh]; simp [okB, hasS, hasT, hasD, lt, ltL, wt']
      go_enter Tryz.func9, Tryz.ntmps9
      go_wp2_with (go_at_call 30; refine (rowOf_in k k0 k1 _).mono ?_; rintro e w1 ⟨rfl, hb1⟩)
      have bA : Below w.heap.size w w1 := ((Below.refl _ _).alloc (Nat.le_refl _) _).trans (hb1.mono (by simp))
      have bF : ∀ o, Below w.heap.size w (w1.alloc o) := fun o => bA.alloc bA.size _
      have c : ∀ q, w1.cell? ⟨w.heap.size, q, none⟩ = _ := fun q => hb1.cell (p := ⟨w.heap.size, q, none⟩) (by simp)
      have c0 := c 0
      have c1 := c 1
      have c2 := c 2
      have c3 := c 3
      have c4 := c 4
      clear c
      simp at c0 c1 c2 c3 c4
      have hz1 : w.heap.size < w1.heap.size := by have := hb1.size; simp at this; omega
      clear hb1
      have q0 : QF w.heap.size w1.heap.size w (w1.alloc (.cells #[.string ⟨(nme k).toArray⟩, .int .i64 (mj k), .int .i64 (0), .string ⟨(lt 10).toArray⟩, .string ⟨(ordr k).toArray⟩, .string ⟨(kindR k).toArray⟩] 67)) k s t d m ⟨(nme k).toArray⟩ (mj k) (0) ⟨(lt 10).toArray⟩ ⟨(ordr k).toArray⟩ ⟨(kindR k).toArray⟩ :=
        ⟨by rw [World.cell?_alloc_lt _ _ _ hz1]; exact c0, by rw [World.cell?_alloc_lt _ _ _ hz1]; exact c1, by rw [World.cell?_alloc_lt _ _ _ hz1]; exact c2, by rw [World.cell?_alloc_lt _ _ _ hz1]; exact c3, by rw [World.cell?_alloc_lt _ _ _ hz1]; exact c4, by simp, by simp, by simp, by simp, by simp, by simp, bF _⟩
      go_wp2_with fail
      generalize w1.alloc (.cells #[.string ⟨(nme k).toArray⟩, .int .i64 (mj k), .int .i64 (0), .string ⟨(lt 10).toArray⟩, .string ⟨(ordr k).toArray⟩, .string ⟨(kindR k).toArray⟩] 67) = W0 at q0 ⊢
      clear c0 c1 c2 c3 c4
      obtain ⟨c0, c1, c2, c3, c4, e0, e1, e2, e3, e4, e5, bW⟩ := q0
      go_quiet ((first | (go_at_call 32; exact Calls.quiet_of_same (isOf_lt 10 (by decide) _ _)) | (go_at_call 31; exact Calls.quiet_of_same (well_any _ _ _))))
      have q1 := (QF.mk c0 c1 c2 c3 c4 e0 e1 e2 e3 e4 e5 bW).drewN nq
      generalize W0.drewN nq = W1 at q1 ⊢
      clear c0 c1 c2 c3 c4 e0 e1 e2 e3 e4 e5 bW
      obtain ⟨c0, c1, c2, c3, c4, e0, e1, e2, e3, e4, e5, bW⟩ := q1
      go_wp2_with fail
      go_quiet ((first | (go_at_call 32; exact Calls.quiet_of_same (isOf_lt 10 (by decide) _ _)) | (go_at_call 31; exact Calls.quiet_of_same (well_any _ _ _))))
      have q2 := (QF.mk c0 c1 c2 c3 c4 e0 e1 e2 e3 e4 e5 bW).drewN nq
      generalize W1.drewN nq = W2 at q2 ⊢
      clear c0 c1 c2 c3 c4 e0 e1 e2 e3 e4 e5 bW
      obtain ⟨c0, c1, c2, c3, c4, e0, e1, e2, e3, e4, e5, bW⟩ := q2
      go_wp2_with fail
      go_quiet ((first | (go_at_call 32; exact Calls.quiet_of_same (isOf_lt 10 (by decide) _ _)) | (go_at_call 31; exact Calls.quiet_of_same (well_any _ _ _))))
      have q3 := (QF.mk c0 c1 c2 c3 c4 e0 e1 e2 e3 e4 e5 bW).drewN nq
      generalize W2.drewN nq = W3 at q3 ⊢
      clear c0 c1 c2 c3 c4 e0 e1 e2 e3 e4 e5 bW
      obtain ⟨c0, c1, c2, c3, c4, e0, e1, e2, e3, e4, e5, bW⟩ := q3
      go_wp2_with (go_at_call 32; refine (isOf_lt 10 (by decide) _ _).mono ?_; rintro e w' ⟨rfl, rfl⟩)
      go_ret2
      exact ⟨by rw [encO_bad HO.out]; rfl, bW⟩
  · have ws' : well s false = false := by simpa using ws
    have HO : Hid (okB (sh k) s t d m = false) := by show okB _ _ _ _ _ = _; rw [hsh]; simp [okB, hasS, hasT, hasD, lt, ltL, ws']
    go_enter Tryz.func9, Tryz.ntmps9
    go_wp2_with (go_at_call 30; refine (rowOf_in k k0 k1 _).mono ?_; rintro e w1 ⟨rfl, hb1⟩)
    have bA : Below w.heap.size w w1 := ((Below.refl _ _).alloc (Nat.le_refl _) _).trans (hb1.mono (by simp))
    have bF : ∀ o, Below w.heap.size w (w1.alloc o) := fun o => bA.alloc bA.size _
    have c : ∀ q, w1.cell? ⟨w.heap.size, q, none⟩ = _ := fun q => hb1.cell (p := ⟨w.heap.size, q, none⟩) (by simp)
    have c0 := c 0
    have c1 := c 1
    have c2 := c 2
    have c3 := c 3
    have c4 := c 4
    clear c
    simp at c0 c1 c2 c3 c4
    have hz1 : w.heap.size < w1.heap.size := by have := hb1.size; simp at this; omega
    clear hb1
    have q0 : QF w.heap.size w1.heap.size w (w1.alloc (.cells #[.string ⟨(nme k).toArray⟩, .int .i64 (mj k), .int .i64 (0), .string ⟨(lt 10).toArray⟩, .string ⟨(ordr k).toArray⟩, .string ⟨(kindR k).toArray⟩] 67)) k s t d m ⟨(nme k).toArray⟩ (mj k) (0) ⟨(lt 10).toArray⟩ ⟨(ordr k).toArray⟩ ⟨(kindR k).toArray⟩ :=
      ⟨by rw [World.cell?_alloc_lt _ _ _ hz1]; exact c0, by rw [World.cell?_alloc_lt _ _ _ hz1]; exact c1, by rw [World.cell?_alloc_lt _ _ _ hz1]; exact c2, by rw [World.cell?_alloc_lt _ _ _ hz1]; exact c3, by rw [World.cell?_alloc_lt _ _ _ hz1]; exact c4, by simp, by simp, by simp, by simp, by simp, by simp, bF _⟩
    go_wp2_with fail
    generalize w1.alloc (.cells #[.string ⟨(nme k).toArray⟩, .int .i64 (mj k), .int .i64 (0), .string ⟨(lt 10).toArray⟩, .string ⟨(ordr k).toArray⟩, .string ⟨(kindR k).toArray⟩] 67) = W0 at q0 ⊢
    clear c0 c1 c2 c3 c4
    obtain ⟨c0, c1, c2, c3, c4, e0, e1, e2, e3, e4, e5, bW⟩ := q0
    go_quiet ((first | (go_at_call 32; exact Calls.quiet_of_same (isOf_lt 10 (by decide) _ _)) | (go_at_call 31; exact Calls.quiet_of_same (well_any _ _ _))))
    have q1 := (QF.mk c0 c1 c2 c3 c4 e0 e1 e2 e3 e4 e5 bW).drewN nq
    generalize W0.drewN nq = W1 at q1 ⊢
    clear c0 c1 c2 c3 c4 e0 e1 e2 e3 e4 e5 bW
    obtain ⟨c0, c1, c2, c3, c4, e0, e1, e2, e3, e4, e5, bW⟩ := q1
    go_wp2_with fail
    go_quiet ((first | (go_at_call 32; exact Calls.quiet_of_same (isOf_lt 10 (by decide) _ _)) | (go_at_call 31; exact Calls.quiet_of_same (well_any _ _ _))))
    have q2 := (QF.mk c0 c1 c2 c3 c4 e0 e1 e2 e3 e4 e5 bW).drewN nq
    generalize W1.drewN nq = W2 at q2 ⊢
    clear c0 c1 c2 c3 c4 e0 e1 e2 e3 e4 e5 bW
    obtain ⟨c0, c1, c2, c3, c4, e0, e1, e2, e3, e4, e5, bW⟩ := q2
    go_wp2_with fail
    go_quiet ((first | (go_at_call 32; exact Calls.quiet_of_same (isOf_lt 10 (by decide) _ _)) | (go_at_call 31; exact Calls.quiet_of_same (well_any _ _ _))))
    have q3 := (QF.mk c0 c1 c2 c3 c4 e0 e1 e2 e3 e4 e5 bW).drewN nq
    generalize W2.drewN nq = W3 at q3 ⊢
    clear c0 c1 c2 c3 c4 e0 e1 e2 e3 e4 e5 bW
    obtain ⟨c0, c1, c2, c3, c4, e0, e1, e2, e3, e4, e5, bW⟩ := q3
    go_wp2_with (go_at_call 32; refine (isOf_lt 10 (by decide) _ _).mono ?_; rintro e w' ⟨rfl, rfl⟩)
    go_ret2
    exact ⟨by rw [encO_bad HO.out]; rfl, bW⟩
set_option maxHeartbeats 4000000 in
theorem encodeOf_11 (k : Nat) (h1 : 1 ≤ k) (hk : k < 54) (hsh : sh k = 11) (hM : mj k = 16) (n0 : 0 ≤ mn k) (n1 : mn k < 32) (n2 : mn k ≠ 16) (hfst : fst k = 1073741824 + mn k * 2097152) (s t d m : Int) (m0 : 0 ≤ m) (m1 : m < 4294967296) (w : World) :
    Calls Tryz.prog 9 #[ins k s t d m] w fun e w' => e = .returned (encO k s t d m) ∧ Below w.heap.size w w' := by
  have k0 : (1 : Int) ≤ k := by omega
  have k1 : (k : Int) < 54 := by omega
  have hfl : flds k = lt 11 := by show lt (sh k) = _; rw [hsh]
  have f83 : hasB (lt 11) 83 = false := by decide
  have f84 : hasB (lt 11) 84 = true := by decide
  have f68 : hasB (lt 11) 68 = true := by decide
  have f97 : hasB (lt 11) 97 = false := by decide
  have f105 : hasB (lt 11) 105 = false := by decide
  have f106 : hasB (lt 11) 106 = false := by decide
  have g16 : (mn k == 16) = false := by simpa using n2
  by_cases ws : well s false = true
  · have bs := well_of ws
    by_cases wt : well t true = true
    · have bt := well_of wt
      by_cases wd : well d true = true
      · have bd := well_of wd
        simp at bs bt bd
        subst bs
        by_cases hm : m ≤ 0
        · have HO : Hid (okB (sh k) 0 t d m = true) := by show okB _ _ _ _ _ = _; rw [hsh]; simp [okB, hasS, hasT, hasD, hasA, hasI, hasJ, top, lt, ltL]; exact (by first | exact ⟨⟨⟨ws, wt⟩, wd⟩, by omega⟩ | (refine ⟨?_, by omega⟩; simp_all) | simp_all)
          have HE : Hid (enc k 0 t d m = 1073741824 + mn k * 2097152 + 0 * 2097152 + t * 65536 + d * 2048 + m * 1) := by show enc k _ _ _ m = _; unfold enc by_; rw [hsh, hfst]; simp [hasA, lt, ltL]
          go_enter Tryz.func9, Tryz.ntmps9
          go_wp2_with (go_at_call 30; refine (rowOf_in k k0 k1 _).mono ?_; rintro e w1 ⟨rfl, hb1⟩)
          have bA : Below w.heap.size w w1 := ((Below.refl _ _).alloc (Nat.le_refl _) _).trans (hb1.mono (by simp))
          have bF : ∀ o, Below w.heap.size w (w1.alloc o) := fun o => bA.alloc bA.size _
          have c : ∀ q, w1.cell? ⟨w.heap.size, q, none⟩ = _ := fun q => hb1.cell (p := ⟨w.heap.size, q, none⟩) (by simp)
          have c0 := c 0
          have c1 := c 1
          have c2 := c 2
          have c3 := c 3
          have c4 := c 4
          clear c
          simp at c0 c1 c2 c3 c4
          have hz1 : w.heap.size < w1.heap.size := by have := hb1.size; simp at this; omega
          clear hb1
          have q0 : QF w.heap.size w1.heap.size w (w1.alloc (.cells #[.string ⟨(nme k).toArray⟩, .int .i64 (16), .int .i64 (mn k), .string ⟨(lt 11).toArray⟩, .string ⟨(ordr k).toArray⟩, .string ⟨(kindR k).toArray⟩] 67)) k 0 t d m ⟨(nme k).toArray⟩ (16) (mn k) ⟨(lt 11).toArray⟩ ⟨(ordr k).toArray⟩ ⟨(kindR k).toArray⟩ :=
            ⟨by rw [World.cell?_alloc_lt _ _ _ hz1]; exact c0, by rw [World.cell?_alloc_lt _ _ _ hz1]; exact c1, by rw [World.cell?_alloc_lt _ _ _ hz1]; exact c2, by rw [World.cell?_alloc_lt _ _ _ hz1]; exact c3, by rw [World.cell?_alloc_lt _ _ _ hz1]; exact c4, by simp, by simp, by simp, by simp, by simp, by simp, bF _⟩
          go_wp2_with fail
          generalize w1.alloc (.cells #[.string ⟨(nme k).toArray⟩, .int .i64 (16), .int .i64 (mn k), .string ⟨(lt 11).toArray⟩, .string ⟨(ordr k).toArray⟩, .string ⟨(kindR k).toArray⟩] 67) = W0 at q0 ⊢
          clear c0 c1 c2 c3 c4
          obtain ⟨c0, c1, c2, c3, c4, e0, e1, e2, e3, e4, e5, bW⟩ := q0
          go_quiet ((first | (go_at_call 32; exact Calls.quiet_of_same (isOf_lt 11 (by decide) _ _)) | (go_at_call 31; exact Calls.quiet_of_same (well_any _ _ _))))
          have q1 := (QF.mk c0 c1 c2 c3 c4 e0 e1 e2 e3 e4 e5 bW).drewN nq
          generalize W0.drewN nq = W1 at q1 ⊢
          clear c0 c1 c2 c3 c4 e0 e1 e2 e3 e4 e5 bW
          obtain ⟨c0, c1, c2, c3, c4, e0, e1, e2, e3, e4, e5, bW⟩ := q1
          go_wp2_with fail
          go_quiet ((first | (go_at_call 32; exact Calls.quiet_of_same (isOf_lt 11 (by decide) _ _)) | (go_at_call 31; exact Calls.quiet_of_same (well_any _ _ _))))
          have q2 := (QF.mk c0 c1 c2 c3 c4 e0 e1 e2 e3 e4 e5 bW).drewN nq
          generalize W1.drewN nq = W2 at q2 ⊢
          clear c0 c1 c2 c3 c4 e0 e1 e2 e3 e4 e5 bW
          obtain ⟨c0, c1, c2, c3, c4, e0, e1, e2, e3, e4, e5, bW⟩ := q2
          go_wp2_with fail
          go_quiet ((first | (go_at_call 32; exact Calls.quiet_of_same (isOf_lt 11 (by decide) _ _)) | (go_at_call 31; exact Calls.quiet_of_same (well_any _ _ _))))
          have q3 := (QF.mk c0 c1 c2 c3 c4 e0 e1 e2 e3 e4 e5 bW).drewN nq
          generalize W2.drewN nq = W3 at q3 ⊢
          clear c0 c1 c2 c3 c4 e0 e1 e2 e3 e4 e5 bW
          obtain ⟨c0, c1, c2, c3, c4, e0, e1, e2, e3, e4, e5, bW⟩ := q3
          go_wp2_with (go_at_call 32; refine (isOf_lt 11 (by decide) _ _).mono ?_; rintro e w' ⟨rfl, rfl⟩)
          go_ret2
          exact ⟨by rw [encO_ok HO.out, HE.out]; exact ret_oo (by omega) rfl, bW⟩
        · have hm' : 0 < m := by omega
          have HO : Hid (okB (sh k) 0 t d m = false) := by show okB _ _ _ _ _ = _; rw [hsh]; simp [okB, hasS, hasT, hasD, hasA, hasI, hasJ, top, lt, ltL]; intros; omega
          go_enter Tryz.func9, Tryz.ntmps9
          go_wp2_with (go_at_call 30; refine (rowOf_in k k0 k1 _).mono ?_; rintro e w1 ⟨rfl, hb1⟩)
          have bA : Below w.heap.size w w1 := ((Below.refl _ _).alloc (Nat.le_refl _) _).trans (hb1.mono (by simp))
          have bF : ∀ o, Below w.heap.size w (w1.alloc o) := fun o => bA.alloc bA.size _
          have c : ∀ q, w1.cell? ⟨w.heap.size, q, none⟩ = _ := fun q => hb1.cell (p := ⟨w.heap.size, q, none⟩) (by simp)
          have c0 := c 0
          have c1 := c 1
          have c2 := c 2
          have c3 := c 3
          have c4 := c 4
          clear c
          simp at c0 c1 c2 c3 c4
          have hz1 : w.heap.size < w1.heap.size := by have := hb1.size; simp at this; omega
          clear hb1
          have q0 : QF w.heap.size w1.heap.size w (w1.alloc (.cells #[.string ⟨(nme k).toArray⟩, .int .i64 (16), .int .i64 (mn k), .string ⟨(lt 11).toArray⟩, .string ⟨(ordr k).toArray⟩, .string ⟨(kindR k).toArray⟩] 67)) k 0 t d m ⟨(nme k).toArray⟩ (16) (mn k) ⟨(lt 11).toArray⟩ ⟨(ordr k).toArray⟩ ⟨(kindR k).toArray⟩ :=
            ⟨by rw [World.cell?_alloc_lt _ _ _ hz1]; exact c0, by rw [World.cell?_alloc_lt _ _ _ hz1]; exact c1, by rw [World.cell?_alloc_lt _ _ _ hz1]; exact c2, by rw [World.cell?_alloc_lt _ _ _ hz1]; exact c3, by rw [World.cell?_alloc_lt _ _ _ hz1]; exact c4, by simp, by simp, by simp, by simp, by simp, by simp, bF _⟩
          go_wp2_with fail
          generalize w1.alloc (.cells #[.string ⟨(nme k).toArray⟩, .int .i64 (16), .int .i64 (mn k), .string ⟨(lt 11).toArray⟩, .string ⟨(ordr k).toArray⟩, .string ⟨(kindR k).toArray⟩] 67) = W0 at q0 ⊢
          clear c0 c1 c2 c3 c4
          obtain ⟨c0, c1, c2, c3, c4, e0, e1, e2, e3, e4, e5, bW⟩ := q0
          go_quiet ((first | (go_at_call 32; exact Calls.quiet_of_same (isOf_lt 11 (by decide) _ _)) | (go_at_call 31; exact Calls.quiet_of_same (well_any _ _ _))))
          have q1 := (QF.mk c0 c1 c2 c3 c4 e0 e1 e2 e3 e4 e5 bW).drewN nq
          generalize W0.drewN nq = W1 at q1 ⊢
          clear c0 c1 c2 c3 c4 e0 e1 e2 e3 e4 e5 bW
          obtain ⟨c0, c1, c2, c3, c4, e0, e1, e2, e3, e4, e5, bW⟩ := q1
          go_wp2_with fail
          go_quiet ((first | (go_at_call 32; exact Calls.quiet_of_same (isOf_lt 11 (by decide) _ _)) | (go_at_call 31; exact Calls.quiet_of_same (well_any _ _ _))))
          have q2 := (QF.mk c0 c1 c2 c3 c4 e0 e1 e2 e3 e4 e5 bW).drewN nq
          generalize W1.drewN nq = W2 at q2 ⊢
          clear c0 c1 c2 c3 c4 e0 e1 e2 e3 e4 e5 bW
          obtain ⟨c0, c1, c2, c3, c4, e0, e1, e2, e3, e4, e5, bW⟩ := q2
          go_wp2_with fail
          go_quiet ((first | (go_at_call 32; exact Calls.quiet_of_same (isOf_lt 11 (by decide) _ _)) | (go_at_call 31; exact Calls.quiet_of_same (well_any _ _ _))))
          have q3 := (QF.mk c0 c1 c2 c3 c4 e0 e1 e2 e3 e4 e5 bW).drewN nq
          generalize W2.drewN nq = W3 at q3 ⊢
          clear c0 c1 c2 c3 c4 e0 e1 e2 e3 e4 e5 bW
          obtain ⟨c0, c1, c2, c3, c4, e0, e1, e2, e3, e4, e5, bW⟩ := q3
          go_wp2_with (go_at_call 32; refine (isOf_lt 11 (by decide) _ _).mono ?_; rintro e w' ⟨rfl, rfl⟩)
          go_ret2
          exact ⟨by rw [encO_bad HO.out]; rfl, bW⟩
      · have wd' : well d true = false := by simpa using wd
        have HO : Hid (okB (sh k) s t d m = false) := by show okB _ _ _ _ _ = _; rw [hsh]; simp [okB, hasS, hasT, hasD, lt, ltL, wd']
        go_enter Tryz.func9, Tryz.ntmps9
        go_wp2_with (go_at_call 30; refine (rowOf_in k k0 k1 _).mono ?_; rintro e w1 ⟨rfl, hb1⟩)
        have bA : Below w.heap.size w w1 := ((Below.refl _ _).alloc (Nat.le_refl _) _).trans (hb1.mono (by simp))
        have bF : ∀ o, Below w.heap.size w (w1.alloc o) := fun o => bA.alloc bA.size _
        have c : ∀ q, w1.cell? ⟨w.heap.size, q, none⟩ = _ := fun q => hb1.cell (p := ⟨w.heap.size, q, none⟩) (by simp)
        have c0 := c 0
        have c1 := c 1
        have c2 := c 2
        have c3 := c 3
        have c4 := c 4
        clear c
        simp at c0 c1 c2 c3 c4
        have hz1 : w.heap.size < w1.heap.size := by have := hb1.size; simp at this; omega
        clear hb1
        have q0 : QF w.heap.size w1.heap.size w (w1.alloc (.cells #[.string ⟨(nme k).toArray⟩, .int .i64 (16), .int .i64 (mn k), .string ⟨(lt 11).toArray⟩, .string ⟨(ordr k).toArray⟩, .string ⟨(kindR k).toArray⟩] 67)) k s t d m ⟨(nme k).toArray⟩ (16) (mn k) ⟨(lt 11).toArray⟩ ⟨(ordr k).toArray⟩ ⟨(kindR k).toArray⟩ :=
          ⟨by rw [World.cell?_alloc_lt _ _ _ hz1]; exact c0, by rw [World.cell?_alloc_lt _ _ _ hz1]; exact c1, by rw [World.cell?_alloc_lt _ _ _ hz1]; exact c2, by rw [World.cell?_alloc_lt _ _ _ hz1]; exact c3, by rw [World.cell?_alloc_lt _ _ _ hz1]; exact c4, by simp, by simp, by simp, by simp, by simp, by simp, bF _⟩
        go_wp2_with fail
        generalize w1.alloc (.cells #[.string ⟨(nme k).toArray⟩, .int .i64 (16), .int .i64 (mn k), .string ⟨(lt 11).toArray⟩, .string ⟨(ordr k).toArray⟩, .string ⟨(kindR k).toArray⟩] 67) = W0 at q0 ⊢
        clear c0 c1 c2 c3 c4
        obtain ⟨c0, c1, c2, c3, c4, e0, e1, e2, e3, e4, e5, bW⟩ := q0
        go_quiet ((first | (go_at_call 32; exact Calls.quiet_of_same (isOf_lt 11 (by decide) _ _)) | (go_at_call 31; exact Calls.quiet_of_same (well_any _ _ _))))
        have q1 := (QF.mk c0 c1 c2 c3 c4 e0 e1 e2 e3 e4 e5 bW).drewN nq
        generalize W0.drewN nq = W1 at q1 ⊢
        clear c0 c1 c2 c3 c4 e0 e1 e2 e3 e4 e5 bW
        obtain ⟨c0, c1, c2, c3, c4, e0, e1, e2, e3, e4, e5, bW⟩ := q1
        go_wp2_with fail
        go_quiet ((first | (go_at_call 32; exact Calls.quiet_of_same (isOf_lt 11 (by decide) _ _)) | (go_at_call 31; exact Calls.quiet_of_same (well_any _ _ _))))
        have q2 := (QF.mk c0 c1 c2 c3 c4 e0 e1 e2 e3 e4 e5 bW).drewN nq
        generalize W1.drewN nq = W2 at q2 ⊢
        clear c0 c1 c2 c3 c4 e0 e1 e2 e3 e4 e5 bW
        obtain ⟨c0, c1, c2, c3, c4, e0, e1, e2, e3, e4, e5, bW⟩ := q2
        go_wp2_with fail
        go_quiet ((first | (go_at_call 32; exact Calls.quiet_of_same (isOf_lt 11 (by decide) _ _)) | (go_at_call 31; exact Calls.quiet_of_same (well_any _ _ _))))
        have q3 := (QF.mk c0 c1 c2 c3 c4 e0 e1 e2 e3 e4 e5 bW).drewN nq
        generalize W2.drewN nq = W3 at q3 ⊢
        clear c0 c1 c2 c3 c4 e0 e1 e2 e3 e4 e5 bW
        obtain ⟨c0, c1, c2, c3, c4, e0, e1, e2, e3, e4, e5, bW⟩ := q3
        go_wp2_with (go_at_call 32; refine (isOf_lt 11 (by decide) _ _).mono ?_; rintro e w' ⟨rfl, rfl⟩)
        go_ret2
        exact ⟨by rw [encO_bad HO.out]; rfl, bW⟩
    · have wt' : well t true = false := by simpa using wt
      have HO : Hid (okB (sh k) s t d m = false) := by show okB _ _ _ _ _ = _; rw [hsh]; simp [okB, hasS, hasT, hasD, lt, ltL, wt']
      go_enter Tryz.func9, Tryz.ntmps9
      go_wp2_with (go_at_call 30; refine (rowOf_in k k0 k1 _).mono ?_; rintro e w1 ⟨rfl, hb1⟩)
      have bA : Below w.heap.size w w1 := ((Below.refl _ _).alloc (Nat.le_refl _) _).trans (hb1.mono (by simp))
      have bF : ∀ o, Below w.heap.size w (w1.alloc o) := fun o => bA.alloc bA.size _
      have c : ∀ q, w1.cell? ⟨w.heap.size, q, none⟩ = _ := fun q => hb1.cell (p := ⟨w.heap.size, q, none⟩) (by simp)
      have c0 := c 0
      have c1 := c 1
      have c2 := c 2
      have c3 := c 3
      have c4 := c 4
      clear c
      simp at c0 c1 c2 c3 c4
      have hz1 : w.heap.size < w1.heap.size := by have := hb1.size; simp at this; omega
      clear hb1
      have q0 : QF w.heap.size w1.heap.size w (w1.alloc (.cells #[.string ⟨(nme k).toArray⟩, .int .i64 (16), .int .i64 (mn k), .string ⟨(lt 11).toArray⟩, .string ⟨(ordr k).toArray⟩, .string ⟨(kindR k).toArray⟩] 67)) k s t d m ⟨(nme k).toArray⟩ (16) (mn k) ⟨(lt 11).toArray⟩ ⟨(ordr k).toArray⟩ ⟨(kindR k).toArray⟩ :=
        ⟨by rw [World.cell?_alloc_lt _ _ _ hz1]; exact c0, by rw [World.cell?_alloc_lt _ _ _ hz1]; exact c1, by rw [World.cell?_alloc_lt _ _ _ hz1]; exact c2, by rw [World.cell?_alloc_lt _ _ _ hz1]; exact c3, by rw [World.cell?_alloc_lt _ _ _ hz1]; exact c4, by simp, by simp, by simp, by simp, by simp, by simp, bF _⟩
      go_wp2_with fail
      generalize w1.alloc (.cells #[.string ⟨(nme k).toArray⟩, .int .i64 (16), .int .i64 (mn k), .string ⟨(lt 11).toArray⟩, .string ⟨(ordr k).toArray⟩, .string ⟨(kindR k).toArray⟩] 67) = W0 at q0 ⊢
      clear c0 c1 c2 c3 c4
      obtain ⟨c0, c1, c2, c3, c4, e0, e1, e2, e3, e4, e5, bW⟩ := q0
      go_quiet ((first | (go_at_call 32; exact Calls.quiet_of_same (isOf_lt 11 (by decide) _ _)) | (go_at_call 31; exact Calls.quiet_of_same (well_any _ _ _))))
      have q1 := (QF.mk c0 c1 c2 c3 c4 e0 e1 e2 e3 e4 e5 bW).drewN nq
      generalize W0.drewN nq = W1 at q1 ⊢
      clear c0 c1 c2 c3 c4 e0 e1 e2 e3 e4 e5 bW
      obtain ⟨c0, c1, c2, c3, c4, e0, e1, e2, e3, e4, e5, bW⟩ := q1
      go_wp2_with fail
      go_quiet ((first | (go_at_call 32; exact Calls.quiet_of_same (isOf_lt 11 (by decide) _ _)) | (go_at_call 31; exact Calls.quiet_of_same (well_any _ _ _))))
      have q2 := (QF.mk c0 c1 c2 c3 c4 e0 e1 e2 e3 e4 e5 bW).drewN nq
      generalize W1.drewN nq = W2 at q2 ⊢
      clear c0 c1 c2 c3 c4 e0 e1 e2 e3 e4 e5 bW
      obtain ⟨c0, c1, c2, c3, c4, e0, e1, e2, e3, e4, e5, bW⟩ := q2
      go_wp2_with fail
      go_quiet ((first | (go_at_call 32; exact Calls.quiet_of_same (isOf_lt 11 (by decide) _ _)) | (go_at_call 31; exact Calls.quiet_of_same (well_any _ _ _))))
      have q3 := (QF.mk c0 c1 c2 c3 c4 e0 e1 e2 e3 e4 e5 bW).drewN nq
      generalize W2.drewN nq = W3 at q3 ⊢
      clear c0 c1 c2 c3 c4 e0 e1 e2 e3 e4 e5 bW
      obtain ⟨c0, c1, c2, c3, c4, e0, e1, e2, e3, e4, e5, bW⟩ := q3
      go_wp2_with (go_at_call 32; refine (isOf_lt 11 (by decide) _ _).mono ?_; rintro e w' ⟨rfl, rfl⟩)
      go_ret2
      exact ⟨by rw [encO_bad HO.out]; rfl, bW⟩
  · have ws' : well s false = false := by simpa using ws
    have HO : Hid (okB (sh k) s t d m = false) := by show okB _ _ _ _ _ = _; rw [hsh]; simp [okB, hasS, hasT, hasD, lt, ltL, ws']
    go_enter Tryz.func9, Tryz.ntmps9
    go_wp2_with (go_at_call 30; refine (rowOf_in k k0 k1 _).mono ?_; rintro e w1 ⟨rfl, hb1⟩)
    have bA : Below w.heap.size w w1 := ((Below.refl _ _).alloc (Nat.le_refl _) _).trans (hb1.mono (by simp))
    have bF : ∀ o, Below w.heap.size w (w1.alloc o) := fun o => bA.alloc bA.size _
    have c : ∀ q, w1.cell? ⟨w.heap.size, q, none⟩ = _ := fun q => hb1.cell (p := ⟨w.heap.size, q, none⟩) (by simp)
    have c0 := c 0
    have c1 := c 1
    have c2 := c 2
    have c3 := c 3
    have c4 := c 4
    clear c
    simp at c0 c1 c2 c3 c4
    have hz1 : w.heap.size < w1.heap.size := by have := hb1.size; simp at this; omega
    clear hb1
    have q0 : QF w.heap.size w1.heap.size w (w1.alloc (.cells #[.string ⟨(nme k).toArray⟩, .int .i64 (16), .int .i64 (mn k), .string ⟨(lt 11).toArray⟩, .string ⟨(ordr k).toArray⟩, .string ⟨(kindR k).toArray⟩] 67)) k s t d m ⟨(nme k).toArray⟩ (16) (mn k) ⟨(lt 11).toArray⟩ ⟨(ordr k).toArray⟩ ⟨(kindR k).toArray⟩ :=
      ⟨by rw [World.cell?_alloc_lt _ _ _ hz1]; exact c0, by rw [World.cell?_alloc_lt _ _ _ hz1]; exact c1, by rw [World.cell?_alloc_lt _ _ _ hz1]; exact c2, by rw [World.cell?_alloc_lt _ _ _ hz1]; exact c3, by rw [World.cell?_alloc_lt _ _ _ hz1]; exact c4, by simp, by simp, by simp, by simp, by simp, by simp, bF _⟩
    go_wp2_with fail
    generalize w1.alloc (.cells #[.string ⟨(nme k).toArray⟩, .int .i64 (16), .int .i64 (mn k), .string ⟨(lt 11).toArray⟩, .string ⟨(ordr k).toArray⟩, .string ⟨(kindR k).toArray⟩] 67) = W0 at q0 ⊢
    clear c0 c1 c2 c3 c4
    obtain ⟨c0, c1, c2, c3, c4, e0, e1, e2, e3, e4, e5, bW⟩ := q0
    go_quiet ((first | (go_at_call 32; exact Calls.quiet_of_same (isOf_lt 11 (by decide) _ _)) | (go_at_call 31; exact Calls.quiet_of_same (well_any _ _ _))))
    have q1 := (QF.mk c0 c1 c2 c3 c4 e0 e1 e2 e3 e4 e5 bW).drewN nq
    generalize W0.drewN nq = W1 at q1 ⊢
    clear c0 c1 c2 c3 c4 e0 e1 e2 e3 e4 e5 bW
    obtain ⟨c0, c1, c2, c3, c4, e0, e1, e2, e3, e4, e5, bW⟩ := q1
    go_wp2_with fail
    go_quiet ((first | (go_at_call 32; exact Calls.quiet_of_same (isOf_lt 11 (by decide) _ _)) | (go_at_call 31; exact Calls.quiet_of_same (well_any _ _ _))))
    have q2 := (QF.mk c0 c1 c2 c3 c4 e0 e1 e2 e3 e4 e5 bW).drewN nq
    generalize W1.drewN nq = W2 at q2 ⊢
    clear c0 c1 c2 c3 c4 e0 e1 e2 e3 e4 e5 bW
    obtain ⟨c0, c1, c2, c3, c4, e0, e1, e2, e3, e4, e5, bW⟩ := q2
    go_wp2_with fail
    go_quiet ((first | (go_at_call 32; exact Calls.quiet_of_same (isOf_lt 11 (by decide) _ _)) | (go_at_call 31; exact Calls.quiet_of_same (well_any _ _ _))))
    have q3 := (QF.mk c0 c1 c2 c3 c4 e0 e1 e2 e3 e4 e5 bW).drewN nq
    generalize W2.drewN nq = W3 at q3 ⊢
    clear c0 c1 c2 c3 c4 e0 e1 e2 e3 e4 e5 bW
    obtain ⟨c0, c1, c2, c3, c4, e0, e1, e2, e3, e4, e5, bW⟩ := q3
    go_wp2_with (go_at_call 32; refine (isOf_lt 11 (by decide) _ _).mono ?_; rintro e w' ⟨rfl, rfl⟩)
    go_ret2
    exact ⟨by rw [encO_bad HO.out]; rfl, bW⟩
set_option maxHeartbeats 4000000 in
theorem encodeOf_e (k : Nat) (h1 : 1 ≤ k) (hk : k < 54) (hsh : sh k = 0) (hM : mj k = 16) (hN : mn k = 16) (hfst : fst k = 1107296280) (s t d m : Int) (m0 : 0 ≤ m) (m1 : m < 4294967296) (w : World) :
    Calls Tryz.prog 9 #[ins k s t d m] w fun e w' => e = .returned (encO k s t d m) ∧ Below w.heap.size w w' := by
  have k0 : (1 : Int) ≤ k := by omega
  have k1 : (k : Int) < 54 := by omega
  have hfl : flds k = lt 0 := by show lt (sh k) = _; rw [hsh]
  have f83 : hasB (lt 0) 83 = false := by decide
  have f84 : hasB (lt 0) 84 = false := by decide
  have f68 : hasB (lt 0) 68 = false := by decide
  have f97 : hasB (lt 0) 97 = false := by decide
  have f105 : hasB (lt 0) 105 = false := by decide
  have f106 : hasB (lt 0) 106 = false := by decide
  by_cases ws : well s false = true
  · have bs := well_of ws
    by_cases wt : well t false = true
    · have bt := well_of wt
      by_cases wd : well d false = true
      · have bd := well_of wd
        simp at bs bt bd
        subst bs
        subst bt
        subst bd
        by_cases hm : m ≤ 0
        · have HO : Hid (okB (sh k) 0 0 0 m = true) := by show okB _ _ _ _ _ = _; rw [hsh]; simp [okB, hasS, hasT, hasD, hasA, hasI, hasJ, top, lt, ltL]; exact (by first | exact ⟨⟨⟨ws, wt⟩, wd⟩, by omega⟩ | (refine ⟨?_, by omega⟩; simp_all) | simp_all)
          have HE : Hid (enc k 0 0 0 m = 1107296280 + 0 * 2097152 + 0 * 65536 + 0 * 2048 + m * 1) := by show enc k _ _ _ m = _; unfold enc by_; rw [hsh, hfst]; simp [hasA, lt, ltL]
          go_enter Tryz.func9, Tryz.ntmps9
          go_wp2_with (go_at_call 30; refine (rowOf_in k k0 k1 _).mono ?_; rintro e w1 ⟨rfl, hb1⟩)
          have bA : Below w.heap.size w w1 := ((Below.refl _ _).alloc (Nat.le_refl _) _).trans (hb1.mono (by simp))
          have bF : ∀ o, Below w.heap.size w (w1.alloc o) := fun o => bA.alloc bA.size _
          have c : ∀ q, w1.cell? ⟨w.heap.size, q, none⟩ = _ := fun q => hb1.cell (p := ⟨w.heap.size, q, none⟩) (by simp)
          have c0 := c 0
          have c1 := c 1
          have c2 := c 2
          have c3 := c 3
          have c4 := c 4
          clear c
          simp at c0 c1 c2 c3 c4
          have hz1 : w.heap.size < w1.heap.size := by have := hb1.size; simp at this; omega
          clear hb1
          have q0 : QF w.heap.size w1.heap.size w (w1.alloc (.cells #[.string ⟨(nme k).toArray⟩, .int .i64 (16), .int .i64 (16), .string ⟨(lt 0).toArray⟩, .string ⟨(ordr k).toArray⟩, .string ⟨(kindR k).toArray⟩] 67)) k 0 0 0 m ⟨(nme k).toArray⟩ (16) (16) ⟨(lt 0).toArray⟩ ⟨(ordr k).toArray⟩ ⟨(kindR k).toArray⟩ :=
            ⟨by rw [World.cell?_alloc_lt _ _ _ hz1]; exact c0, by rw [World.cell?_alloc_lt _ _ _ hz1]; exact c1, by rw [World.cell?_alloc_lt _ _ _ hz1]; exact c2, by rw [World.cell?_alloc_lt _ _ _ hz1]; exact c3, by rw [World.cell?_alloc_lt _ _ _ hz1]; exact c4, by simp, by simp, by simp, by simp, by simp, by simp, bF _⟩
          go_wp2_with fail
          generalize w1.alloc (.cells #[.string ⟨(nme k).toArray⟩, .int .i64 (16), .int .i64 (16), .string ⟨(lt 0).toArray⟩, .string ⟨(ordr k).toArray⟩, .string ⟨(kindR k).toArray⟩] 67) = W0 at q0 ⊢
          clear c0 c1 c2 c3 c4
          obtain ⟨c0, c1, c2, c3, c4, e0, e1, e2, e3, e4, e5, bW⟩ := q0
          go_quiet ((first | (go_at_call 32; exact Calls.quiet_of_same (isOf_lt 0 (by decide) _ _)) | (go_at_call 31; exact Calls.quiet_of_same (well_any _ _ _))))
          have q1 := (QF.mk c0 c1 c2 c3 c4 e0 e1 e2 e3 e4 e5 bW).drewN nq
          generalize W0.drewN nq = W1 at q1 ⊢
          clear c0 c1 c2 c3 c4 e0 e1 e2 e3 e4 e5 bW
          obtain ⟨c0, c1, c2, c3, c4, e0, e1, e2, e3, e4, e5, bW⟩ := q1
          go_wp2_with fail
          go_quiet ((first | (go_at_call 32; exact Calls.quiet_of_same (isOf_lt 0 (by decide) _ _)) | (go_at_call 31; exact Calls.quiet_of_same (well_any _ _ _))))
          have q2 := (QF.mk c0 c1 c2 c3 c4 e0 e1 e2 e3 e4 e5 bW).drewN nq
          generalize W1.drewN nq = W2 at q2 ⊢
          clear c0 c1 c2 c3 c4 e0 e1 e2 e3 e4 e5 bW
          obtain ⟨c0, c1, c2, c3, c4, e0, e1, e2, e3, e4, e5, bW⟩ := q2
          go_wp2_with fail
          go_quiet ((first | (go_at_call 32; exact Calls.quiet_of_same (isOf_lt 0 (by decide) _ _)) | (go_at_call 31; exact Calls.quiet_of_same (well_any _ _ _))))
          have q3 := (QF.mk c0 c1 c2 c3 c4 e0 e1 e2 e3 e4 e5 bW).drewN nq
          generalize W2.drewN nq = W3 at q3 ⊢
          clear c0 c1 c2 c3 c4 e0 e1 e2 e3 e4 e5 bW
          obtain ⟨c0, c1, c2, c3, c4, e0, e1, e2, e3, e4, e5, bW⟩ := q3
          go_wp2_with (go_at_call 32; refine (isOf_lt 0 (by decide) _ _).mono ?_; rintro e w' ⟨rfl, rfl⟩)
          go_ret2
          exact ⟨by rw [encO_ok HO.out, HE.out]; exact ret_oo (by omega) rfl, bW⟩
        · have hm' : 0 < m := by omega
          have HO : Hid (okB (sh k) 0 0 0 m = false) := by show okB _ _ _ _ _ = _; rw [hsh]; simp [okB, hasS, hasT, hasD, hasA, hasI, hasJ, top, lt, ltL]; intros; omega
          go_enter Tryz.func9, Tryz.ntmps9
          go_wp2_with (go_at_call 30; refine (rowOf_in k k0 k1 _).mono ?_; rintro e w1 ⟨rfl, hb1⟩)
          have bA : Below w.heap.size w w1 := ((Below.refl _ _).alloc (Nat.le_refl _) _).trans (hb1.mono (by simp))
          have bF : ∀ o, Below w.heap.size w (w1.alloc o) := fun o => bA.alloc bA.size _
          have c : ∀ q, w1.cell? ⟨w.heap.size, q, none⟩ = _ := fun q => hb1.cell (p := ⟨w.heap.size, q, none⟩) (by simp)
          have c0 := c 0
          have c1 := c 1
          have c2 := c 2
          have c3 := c 3
          have c4 := c 4
          clear c
          simp at c0 c1 c2 c3 c4
          have hz1 : w.heap.size < w1.heap.size := by have := hb1.size; simp at this; omega
          clear hb1
          have q0 : QF w.heap.size w1.heap.size w (w1.alloc (.cells #[.string ⟨(nme k).toArray⟩, .int .i64 (16), .int .i64 (16), .string ⟨(lt 0).toArray⟩, .string ⟨(ordr k).toArray⟩, .string ⟨(kindR k).toArray⟩] 67)) k 0 0 0 m ⟨(nme k).toArray⟩ (16) (16) ⟨(lt 0).toArray⟩ ⟨(ordr k).toArray⟩ ⟨(kindR k).toArray⟩ :=
            ⟨by rw [World.cell?_alloc_lt _ _ _ hz1]; exact c0, by rw [World.cell?_alloc_lt _ _ _ hz1]; exact c1, by rw [World.cell?_alloc_lt _ _ _ hz1]; exact c2, by rw [World.cell?_alloc_lt _ _ _ hz1]; exact c3, by rw [World.cell?_alloc_lt _ _ _ hz1]; exact c4, by simp, by simp, by simp, by simp, by simp, by simp, bF _⟩
          go_wp2_with fail
          generalize w1.alloc (.cells #[.string ⟨(nme k).toArray⟩, .int .i64 (16), .int .i64 (16), .string ⟨(lt 0).toArray⟩, .string ⟨(ordr k).toArray⟩, .string ⟨(kindR k).toArray⟩] 67) = W0 at q0 ⊢
          clear c0 c1 c2 c3 c4
          obtain ⟨c0, c1, c2, c3, c4, e0, e1, e2, e3, e4, e5, bW⟩ := q0
          go_quiet ((first | (go_at_call 32; exact Calls.quiet_of_same (isOf_lt 0 (by decide) _ _)) | (go_at_call 31; exact Calls.quiet_of_same (well_any _ _ _))))
          have q1 := (QF.mk c0 c1 c2 c3 c4 e0 e1 e2 e3 e4 e5 bW).drewN nq
          generalize W0.drewN nq = W1 at q1 ⊢
          clear c0 c1 c2 c3 c4 e0 e1 e2 e3 e4 e5 bW
          obtain ⟨c0, c1, c2, c3, c4, e0, e1, e2, e3, e4, e5, bW⟩ := q1
          go_wp2_with fail
          go_quiet ((first | (go_at_call 32; exact Calls.quiet_of_same (isOf_lt 0 (by decide) _ _)) | (go_at_call 31; exact Calls.quiet_of_same (well_any _ _ _))))
          have q2 := (QF.mk c0 c1 c2 c3 c4 e0 e1 e2 e3 e4 e5 bW).drewN nq
          generalize W1.drewN nq = W2 at q2 ⊢
          clear c0 c1 c2 c3 c4 e0 e1 e2 e3 e4 e5 bW
          obtain ⟨c0, c1, c2, c3, c4, e0, e1, e2, e3, e4, e5, bW⟩ := q2
          go_wp2_with fail
          go_quiet ((first | (go_at_call 32; exact Calls.quiet_of_same (isOf_lt 0 (by decide) _ _)) | (go_at_call 31; exact Calls.quiet_of_same (well_any _ _ _))))
          have q3 := (QF.mk c0 c1 c2 c3 c4 e0 e1 e2 e3 e4 e5 bW).drewN nq
          generalize W2.drewN nq = W3 at q3 ⊢
          clear c0 c1 c2 c3 c4 e0 e1 e2 e3 e4 e5 bW
          obtain ⟨c0, c1, c2, c3, c4, e0, e1, e2, e3, e4, e5, bW⟩ := q3
          go_wp2_with (go_at_call 32; refine (isOf_lt 0 (by decide) _ _).mono ?_; rintro e w' ⟨rfl, rfl⟩)
          go_ret2
          exact ⟨by rw [encO_bad HO.out]; rfl, bW⟩
      · have wd' : well d false = false := by simpa using wd
        have HO : Hid (okB (sh k) s t d m = false) := by show okB _ _ _ _ _ = _; rw [hsh]; simp [okB, hasS, hasT, hasD, lt, ltL, wd']
        go_enter Tryz.func9, Tryz.ntmps9
        go_wp2_with (go_at_call 30; refine (rowOf_in k k0 k1 _).mono ?_; rintro e w1 ⟨rfl, hb1⟩)
        have bA : Below w.heap.size w w1 := ((Below.refl _ _).alloc (Nat.le_refl _) _).trans (hb1.mono (by simp))
        have bF : ∀ o, Below w.heap.size w (w1.alloc o) := fun o => bA.alloc bA.size _
        have c : ∀ q, w1.cell? ⟨w.heap.size, q, none⟩ = _ := fun q => hb1.cell (p := ⟨w.heap.size, q, none⟩) (by simp)
        have c0 := c 0
        have c1 := c 1
        have c2 := c 2
        have c3 := c 3
        have c4 := c 4
        clear c
        simp at c0 c1 c2 c3 c4
        have hz1 : w.heap.size < w1.heap.size := by have := hb1.size; simp at this; omega
        clear hb1
        have q0 : QF w.heap.size w1.heap.size w (w1.alloc (.cells #[.string ⟨(nme k).toArray⟩, .int .i64 (16), .int .i64 (16), .string ⟨(lt 0).toArray⟩, .string ⟨(ordr k).toArray⟩, .string ⟨(kindR k).toArray⟩] 67)) k s t d m ⟨(nme k).toArray⟩ (16) (16) ⟨(lt 0).toArray⟩ ⟨(ordr k).toArray⟩ ⟨(kindR k).toArray⟩ :=
          ⟨by rw [World.cell?_alloc_lt _ _ _ hz1]; exact c0, by rw [World.cell?_alloc_lt _ _ _ hz1]; exact c1, by rw [World.cell?_alloc_lt _ _ _ hz1]; exact c2, by rw [World.cell?_alloc_lt _ _ _ hz1]; exact c3, by rw [World.cell?_alloc_lt _ _ _ hz1]; exact c4, by simp, by simp, by simp, by simp, by simp, by simp, bF _⟩
        go_wp2_with fail
        generalize w1.alloc (.cells #[.string ⟨(nme k).toArray⟩, .int .i64 (16), .int .i64 (16), .string ⟨(lt 0).toArray⟩, .string ⟨(ordr k).toArray⟩, .string ⟨(kindR k).toArray⟩] 67) = W0 at q0 ⊢
        clear c0 c1 c2 c3 c4
        obtain ⟨c0, c1, c2, c3, c4, e0, e1, e2, e3, e4, e5, bW⟩ := q0
        go_quiet ((first | (go_at_call 32; exact Calls.quiet_of_same (isOf_lt 0 (by decide) _ _)) | (go_at_call 31; exact Calls.quiet_of_same (well_any _ _ _))))
        have q1 := (QF.mk c0 c1 c2 c3 c4 e0 e1 e2 e3 e4 e5 bW).drewN nq
        generalize W0.drewN nq = W1 at q1 ⊢
        clear c0 c1 c2 c3 c4 e0 e1 e2 e3 e4 e5 bW
        obtain ⟨c0, c1, c2, c3, c4, e0, e1, e2, e3, e4, e5, bW⟩ := q1
        go_wp2_with fail
        go_quiet ((first | (go_at_call 32; exact Calls.quiet_of_same (isOf_lt 0 (by decide) _ _)) | (go_at_call 31; exact Calls.quiet_of_same (well_any _ _ _))))
        have q2 := (QF.mk c0 c1 c2 c3 c4 e0 e1 e2 e3 e4 e5 bW).drewN nq
        generalize W1.drewN nq = W2 at q2 ⊢
        clear c0 c1 c2 c3 c4 e0 e1 e2 e3 e4 e5 bW
        obtain ⟨c0, c1, c2, c3, c4, e0, e1, e2, e3, e4, e5, bW⟩ := q2
        go_wp2_with fail
        go_quiet ((first | (go_at_call 32; exact Calls.quiet_of_same (isOf_lt 0 (by decide) _ _)) | (go_at_call 31; exact Calls.quiet_of_same (well_any _ _ _))))
        have q3 := (QF.mk c0 c1 c2 c3 c4 e0 e1 e2 e3 e4 e5 bW).drewN nq
        generalize W2.drewN nq = W3 at q3 ⊢
        clear c0 c1 c2 c3 c4 e0 e1 e2 e3 e4 e5 bW
        obtain ⟨c0, c1, c2, c3, c4, e0, e1, e2, e3, e4, e5, bW⟩ := q3
        go_wp2_with (go_at_call 32; refine (isOf_lt 0 (by decide) _ _).mono ?_; rintro e w' ⟨rfl, rfl⟩)
        go_ret2
        exact ⟨by rw [encO_bad HO.out]; rfl, bW⟩
    · have wt' : well t false = false := by simpa using wt
      have HO : Hid (okB (sh k) s t d m = false) := by show okB _ _ _ _ _ = _; rw [hsh]; simp [okB, hasS, hasT, hasD, lt, ltL, wt']
      go_enter Tryz.func9, Tryz.ntmps9
      go_wp2_with (go_at_call 30; refine (rowOf_in k k0 k1 _).mono ?_; rintro e w1 ⟨rfl, hb1⟩)
      have bA : Below w.heap.size w w1 := ((Below.refl _ _).alloc (Nat.le_refl _) _).trans (hb1.mono (by simp))
      have bF : ∀ o, Below w.heap.size w (w1.alloc o) := fun o => bA.alloc bA.size _
      have c : ∀ q, w1.cell? ⟨w.heap.size, q, none⟩ = _ := fun q => hb1.cell (p := ⟨w.heap.size, q, none⟩) (by simp)
      have c0 := c 0
      have c1 := c 1
      have c2 := c 2
      have c3 := c 3
      have c4 := c 4
      clear c
      simp at c0 c1 c2 c3 c4
      have hz1 : w.heap.size < w1.heap.size := by have := hb1.size; simp at this; omega
      clear hb1
      have q0 : QF w.heap.size w1.heap.size w (w1.alloc (.cells #[.string ⟨(nme k).toArray⟩, .int .i64 (16), .int .i64 (16), .string ⟨(lt 0).toArray⟩, .string ⟨(ordr k).toArray⟩, .string ⟨(kindR k).toArray⟩] 67)) k s t d m ⟨(nme k).toArray⟩ (16) (16) ⟨(lt 0).toArray⟩ ⟨(ordr k).toArray⟩ ⟨(kindR k).toArray⟩ :=
        ⟨by rw [World.cell?_alloc_lt _ _ _ hz1]; exact c0, by rw [World.cell?_alloc_lt _ _ _ hz1]; exact c1, by rw [World.cell?_alloc_lt _ _ _ hz1]; exact c2, by rw [World.cell?_alloc_lt _ _ _ hz1]; exact c3, by rw [World.cell?_alloc_lt _ _ _ hz1]; exact c4, by simp, by simp, by simp, by simp, by simp, by simp, bF _⟩
      go_wp2_with fail
      generalize w1.alloc (.cells #[.string ⟨(nme k).toArray⟩, .int .i64 (16), .int .i64 (16), .string ⟨(lt 0).toArray⟩, .string ⟨(ordr k).toArray⟩, .string ⟨(kindR k).toArray⟩] 67) = W0 at q0 ⊢
      clear c0 c1 c2 c3 c4
      obtain ⟨c0, c1, c2, c3, c4, e0, e1, e2, e3, e4, e5, bW⟩ := q0
      go_quiet ((first | (go_at_call 32; exact Calls.quiet_of_same (isOf_lt 0 (by decide) _ _)) | (go_at_call 31; exact Calls.quiet_of_same (well_any _ _ _))))
      have q1 := (QF.mk c0 c1 c2 c3 c4 e0 e1 e2 e3 e4 e5 bW).drewN nq
      generalize W0.drewN nq = W1 at q1 ⊢
      clear c0 c1 c2 c3 c4 e0 e1 e2 e3 e4 e5 bW
      obtain ⟨c0, c1, c2, c3, c4, e0, e1, e2, e3, e4, e5, bW⟩ := q1
      go_wp2_with fail
      go_quiet ((first | (go_at_call 32; exact Calls.quiet_of_same (isOf_lt 0 (by decide) _ _)) | (go_at_call 31; exact Calls.quiet_of_same (well_any _ _ _))))
      have q2 := (QF.mk c0 c1 c2 c3 c4 e0 e1 e2 e3 e4 e5 bW).drewN nq
      generalize W1.drewN nq = W2 at q2 ⊢
      clear c0 c1 c2 c3 c4 e0 e1 e2 e3 e4 e5 bW
      obtain ⟨c0, c1, c2, c3, c4, e0, e1, e2, e3, e4, e5, bW⟩ := q2
      go_wp2_with fail
      go_quiet ((first | (go_at_call 32; exact Calls.quiet_of_same (isOf_lt 0 (by decide) _ _)) | (go_at_call 31; exact Calls.quiet_of_same (well_any _ _ _))))
      have q3 := (QF.mk c0 c1 c2 c3 c4 e0 e1 e2 e3 e4 e5 bW).drewN nq
      generalize W2.drewN nq = W3 at q3 ⊢
      clear c0 c1 c2 c3 c4 e0 e1 e2 e3 e4 e5 bW
      obtain ⟨c0, c1, c2, c3, c4, e0, e1, e2, e3, e4, e5, bW⟩ := q3
      go_wp2_with (go_at_call 32; refine (isOf_lt 0 (by decide) _ _).mono ?_; rintro e w' ⟨rfl, rfl⟩)
      go_ret2
      exact ⟨by rw [encO_bad HO.out]; rfl, bW⟩
  · have ws' : well s false = false := by simpa using ws
    have HO : Hid (okB (sh k) s t d m = false) := by show okB _ _ _ _ _ = _; rw [hsh]; simp [okB, hasS, hasT, hasD, lt, ltL, ws']
    go_enter Tryz.func9, Tryz.ntmps9
    go_wp2_with (go_at_call 30; refine (rowOf_in k k0 k1 _).mono ?_; rintro e w1 ⟨rfl, hb1⟩)
    have bA : Below w.heap.size w w1 := ((Below.refl _ _).alloc (Nat.le_refl _) _).trans (hb1.mono (by simp))
    have bF : ∀ o, Below w.heap.size w (w1.alloc o) := fun o => bA.alloc bA.size _
    have c : ∀ q, w1.cell? ⟨w.heap.size, q, none⟩ = _ := fun q => hb1.cell (p := ⟨w.heap.size, q, none⟩) (by simp)
    have c0 := c 0
    have c1 := c 1
    have c2 := c 2
    have c3 := c 3
    have c4 := c 4
    clear c
    simp at c0 c1 c2 c3 c4
    have hz1 : w.heap.size < w1.heap.size := by have := hb1.size; simp at this; omega
    clear hb1
    have q0 : QF w.heap.size w1.heap.size w (w1.alloc (.cells #[.string ⟨(nme k).toArray⟩, .int .i64 (16), .int .i64 (16), .string ⟨(lt 0).toArray⟩, .string ⟨(ordr k).toArray⟩, .string ⟨(kindR k).toArray⟩] 67)) k s t d m ⟨(nme k).toArray⟩ (16) (16) ⟨(lt 0).toArray⟩ ⟨(ordr k).toArray⟩ ⟨(kindR k).toArray⟩ :=
      ⟨by rw [World.cell?_alloc_lt _ _ _ hz1]; exact c0, by rw [World.cell?_alloc_lt _ _ _ hz1]; exact c1, by rw [World.cell?_alloc_lt _ _ _ hz1]; exact c2, by rw [World.cell?_alloc_lt _ _ _ hz1]; exact c3, by rw [World.cell?_alloc_lt _ _ _ hz1]; exact c4, by simp, by simp, by simp, by simp, by simp, by simp, bF _⟩
    go_wp2_with fail
    generalize w1.alloc (.cells #[.string ⟨(nme k).toArray⟩, .int .i64 (16), .int .i64 (16), .string ⟨(lt 0).toArray⟩, .string ⟨(ordr k).toArray⟩, .string ⟨(kindR k).toArray⟩] 67) = W0 at q0 ⊢
    clear c0 c1 c2 c3 c4
    obtain ⟨c0, c1, c2, c3, c4, e0, e1, e2, e3, e4, e5, bW⟩ := q0
    go_quiet ((first | (go_at_call 32; exact Calls.quiet_of_same (isOf_lt 0 (by decide) _ _)) | (go_at_call 31; exact Calls.quiet_of_same (well_any _ _ _))))
    have q1 := (QF.mk c0 c1 c2 c3 c4 e0 e1 e2 e3 e4 e5 bW).drewN nq
    generalize W0.drewN nq = W1 at q1 ⊢
    clear c0 c1 c2 c3 c4 e0 e1 e2 e3 e4 e5 bW
    obtain ⟨c0, c1, c2, c3, c4, e0, e1, e2, e3, e4, e5, bW⟩ := q1
    go_wp2_with fail
    go_quiet ((first | (go_at_call 32; exact Calls.quiet_of_same (isOf_lt 0 (by decide) _ _)) | (go_at_call 31; exact Calls.quiet_of_same (well_any _ _ _))))
    have q2 := (QF.mk c0 c1 c2 c3 c4 e0 e1 e2 e3 e4 e5 bW).drewN nq
    generalize W1.drewN nq = W2 at q2 ⊢
    clear c0 c1 c2 c3 c4 e0 e1 e2 e3 e4 e5 bW
    obtain ⟨c0, c1, c2, c3, c4, e0, e1, e2, e3, e4, e5, bW⟩ := q2
    go_wp2_with fail
    go_quiet ((first | (go_at_call 32; exact Calls.quiet_of_same (isOf_lt 0 (by decide) _ _)) | (go_at_call 31; exact Calls.quiet_of_same (well_any _ _ _))))
    have q3 := (QF.mk c0 c1 c2 c3 c4 e0 e1 e2 e3 e4 e5 bW).drewN nq
    generalize W2.drewN nq = W3 at q3 ⊢
    clear c0 c1 c2 c3 c4 e0 e1 e2 e3 e4 e5 bW
    obtain ⟨c0, c1, c2, c3, c4, e0, e1, e2, e3, e4, e5, bW⟩ := q3
    go_wp2_with (go_at_call 32; refine (isOf_lt 0 (by decide) _ _).mono ?_; rintro e w' ⟨rfl, rfl⟩)
    go_ret2
    exact ⟨by rw [encO_bad HO.out]; rfl, bW⟩
end Go.Proofs.YtccnliihdhnckaaGreatDoor
