/-
  What the verifier's EncodeOf answers at some shapes of fields.
-/
import Derived.Test.YtccnliihdhnckaaGreatDoorKEr9
namespace Go.Proofs.YtccnliihdhnckaaGreatDoor
open Go.RowKit Go.Extern.Stop Go.Stop Go.Extern
open Num Tab Fm
set_option linter.unusedVariables false
set_option maxHeartbeats 4000000 in
theorem encodeOf_0 (k : Nat) (h1 : 1 ≤ k) (hk : k < 54) (hsh : sh k = 0) (hM : mj k = 0) (n0 : 0 ≤ mn k) (n1 : mn k < 64) (hfst : fst k = mn k) (s t d m : Int) (m0 : 0 ≤ m) (m1 : m < 4294967296) (w : World) :
    Calls Tryz.prog 9 #[ins k s t d m] w fun e w' => e = .returned (encO k s t d m) ∧ Below w.heap.size w w' := by
  have k0 : (1 : Int) ≤ k := by omega
  have k1 : (k : Int) < 54 := by omega
  have hfl : flds k = lt 0 := by show lt (sh k) = _; rw [hsh]
  have f83 : hasB (lt 0) 83 = false := by decide
  have f84 : hasB (lt 0) 84 = false := by decide
  have f68 : hasB (lt 0) 68 = false := by decide
  have f97 : hasB (lt 0) 97 = false := by decide
  have f105 : hasB (lt 0) 105 = false := by decide
  have f106 : hasB (lt 0) 106 = false := by decide
  by_cases ws : well s false = true
  · have bs := well_of ws
    by_cases wt : well t false = true
    · have bt := well_of wt
      by_cases wd : well d false = true
      · have bd := well_of wd
        simp at bs bt bd
        subst bs
        subst bt
        subst bd
        by_cases hm : m ≤ 0
        · have HO : Hid (okB (sh k) 0 0 0 m = true) := by show okB _ _ _ _ _ = _; rw [hsh]; simp [okB, hasS, hasT, hasD, hasA, hasI, hasJ, top, lt, ltL]; exact (by first | exact ⟨⟨⟨ws, wt⟩, wd⟩, by omega⟩ | (refine ⟨?_, by omega⟩; simp_all) | simp_all)
          have HE : Hid (enc k 0 0 0 m = mn k + 0 * 2097152 + 0 * 65536 + 0 * 2048 + m * 1) := by show enc k _ _ _ m = _; unfold enc by_; rw [hsh, hfst]; simp [hasA, lt, ltL]
          go_enter Tryz.func9, Tryz.ntmps9
          go_wp2_with (go_at_call 30; refine (rowOf_in k k0 k1 _).mono ?_; rintro e w1 ⟨rfl, hb1⟩)
          have bA : Below w.heap.size w w1 := ((Below.refl _ _).alloc (Nat.le_refl _) _).trans (hb1.mono (by simp))
          have bF : ∀ o, Below w.heap.size w (w1.alloc o) := fun o => bA.alloc bA.size _
          have c : ∀ q, w1.cell? ⟨w.heap.size, q, none⟩ = _ := fun q => hb1.cell (p := ⟨w.heap.size, q, none⟩) (by simp)
          have c0 := c 0
          have c1 := c 1
          have c2 := c 2
          have c3 := c 3
          have c4 := c 4
          clear c
          simp at c0 c1 c2 c3 c4
          have hz1 : w.heap.size < w1.heap.size := by have := hb1.size; simp at this; omega
          clear hb1
          have q0 : QF w.heap.size w1.heap.size w (w1.alloc (.cells #[.string ⟨(nme k).toArray⟩, .int .i64 (0), .int .i64 (mn k), .string ⟨(lt 0).toArray⟩, .string ⟨(ordr k).toArray⟩, .string ⟨(kindR k).toArray⟩] 67)) k 0 0 0 m ⟨(nme k).toArray⟩ (0) (mn k) ⟨(lt 0).toArray⟩ ⟨(ordr k).toArray⟩ ⟨(kindR k).toArray⟩ :=
            ⟨by rw [World.cell?_alloc_lt _ _ _ hz1]; exact c0, by rw [World.cell?_alloc_lt _ _ _ hz1]; exact c1, by rw [World.cell?_alloc_lt _ _ _ hz1]; exact c2, by rw [World.cell?_alloc_lt _ _ _ hz1]; exact c3, by rw [World.cell?_alloc_lt _ _ _ hz1]; exact c4, by simp, by simp, by simp, by simp, by simp, by simp, bF _⟩
          go_wp2_with fail
          generalize w1.alloc (.cells #[.string ⟨(nme k).toArray⟩, .int .i64 (0), .int .i64 (mn k), .string ⟨(lt 0).toArray⟩, .string ⟨(ordr k).toArray⟩, .string ⟨(kindR k).toArray⟩] 67) = W0 at q0 ⊢
          clear c0 c1 c2 c3 c4
          obtain ⟨c0, c1, c2, c3, c4, e0, e1, e2, e3, e4, e5, bW⟩ := q0
          go_quiet ((first | (go_at_call 32; exact Calls.quiet_of_same (isOf_lt 0 (by decide) _ _)) | (go_at_call 31; exact Calls.quiet_of_same (well_any _ _ _))))
          have q1 := (QF.mk c0 c1 c2 c3 c4 e0 e1 e2 e3 e4 e5 bW).drewN nq
          generalize W0.drewN nq = W1 at q1 ⊢
          clear c0 c1 c2 c3 c4 e0 e1 e2 e3 e4 e5 bW
          obtain ⟨c0, c1, c2, c3, c4, e0, e1, e2, e3, e4, e5, bW⟩ := q1
          go_wp2_with fail
          go_quiet ((first | (go_at_call 32; exact Calls.quiet_of_same (isOf_lt 0 (by decide) _ _)) | (go_at_call 31; exact Calls.quiet_of_same (well_any _ _ _))))
          have q2 := (QF.mk c0 c1 c2 c3 c4 e0 e1 e2 e3 e4 e5 bW).drewN nq
          generalize W1.drewN nq = W2 at q2 ⊢
          clear c0 c1 c2 c3 c4 e0 e1 e2 e3 e4 e5 bW
          obtain ⟨c0, c1, c2, c3, c4, e0, e1, e2, e3, e4, e5, bW⟩ := q2
          go_wp2_with fail
          go_quiet ((first | (go_at_call 32; exact Calls.quiet_of_same (isOf_lt 0 (by decide) _ _)) | (go_at_call 31; exact Calls.quiet_of_same (well_any _ _ _))))
          have q3 := (QF.mk c0 c1 c2 c3 c4 e0 e1 e2 e3 e4 e5 bW).drewN nq
          generalize W2.drewN nq = W3 at q3 ⊢
          clear c0 c1 c2 c3 c4 e0 e1 e2 e3 e4 e5 bW
          obtain ⟨c0, c1, c2, c3, c4, e0, e1, e2, e3, e4, e5, bW⟩ := q3
          go_wp2_with (go_at_call 32; refine (isOf_lt 0 (by decide) _ _).mono ?_; rintro e w' ⟨rfl, rfl⟩)
          go_ret2
          exact ⟨by rw [encO_ok HO.out, HE.out]; exact ret_oo (by omega) rfl, bW⟩
        · have hm' : 0 < m := by omega
          have HO : Hid (okB (sh k) 0 0 0 m = false) := by show okB _ _ _ _ _ = _; rw [hsh]; simp [okB, hasS, hasT, hasD, hasA, hasI, hasJ, top, lt, ltL]; intros; omega
          go_enter Tryz.func9, Tryz.ntmps9
          go_wp2_with (go_at_call 30; refine (rowOf_in k k0 k1 _).mono ?_; rintro e w1 ⟨rfl, hb1⟩)
          have bA : Below w.heap.size w w1 := ((Below.refl _ _).alloc (Nat.le_refl _) _).trans (hb1.mono (by simp))
          have bF : ∀ o, Below w.heap.size w (w1.alloc o) := fun o => bA.alloc bA.size _
          have c : ∀ q, w1.cell? ⟨w.heap.size, q, none⟩ = _ := fun q => hb1.cell (p := ⟨w.heap.size, q, none⟩) (by simp)
          have c0 := c 0
          have c1 := c 1
          have c2 := c 2
          have c3 := c 3
          have c4 := c 4
          clear c
          simp at c0 c1 c2 c3 c4
          have hz1 : w.heap.size < w1.heap.size := by have := hb1.size; simp at this; omega
          clear hb1
          have q0 : QF w.heap.size w1.heap.size w (w1.alloc (.cells #[.string ⟨(nme k).toArray⟩, .int .i64 (0), .int .i64 (mn k), .string ⟨(lt 0).toArray⟩, .string ⟨(ordr k).toArray⟩, .string ⟨(kindR k).toArray⟩] 67)) k 0 0 0 m ⟨(nme k).toArray⟩ (0) (mn k) ⟨(lt 0).toArray⟩ ⟨(ordr k).toArray⟩ ⟨(kindR k).toArray⟩ :=
            ⟨by rw [World.cell?_alloc_lt _ _ _ hz1]; exact c0, by rw [World.cell?_alloc_lt _ _ _ hz1]; exact c1, by rw [World.cell?_alloc_lt _ _ _ hz1]; exact c2, by rw [World.cell?_alloc_lt _ _ _ hz1]; exact c3, by rw [World.cell?_alloc_lt _ _ _ hz1]; exact c4, by simp, by simp, by simp, by simp, by simp, by simp, bF _⟩
          go_wp2_with fail
          generalize w1.alloc (.cells #[.string ⟨(nme k).toArray⟩, .int .i64 (0), .int .i64 (mn k), .string ⟨(lt 0).toArray⟩, .string ⟨(ordr k).toArray⟩, .string ⟨(kindR k).toArray⟩] 67) = W0 at q0 ⊢
          clear c0 c1 c2 c3 c4
          obtain ⟨c0, c1, c2, c3, c4, e0, e1, e2, e3, e4, e5, bW⟩ := q0
          go_quiet ((first | (go_at_call 32; exact Calls.quiet_of_same (isOf_lt 0 (by decide) _ _)) | (go_at_call 31; exact Calls.quiet_of_same (well_any _ _ _))))
          have q1 := (QF.mk c0 c1 c2 c3 c4 e0 e1 e2 e3 e4 e5 bW).drewN nq
          generalize W0.drewN nq = W1 at q1 ⊢
          clear c0 c1 c2 c3 c4 e0 e1 e2 e3 e4 e5 bW
          obtain ⟨c0, c1, c2, c3, c4, e0, e1, e2, e3, e4, e5, bW⟩ := q1
          go_wp2_with fail
          go_quiet ((first | (go_at_call 32; exact Calls.quiet_of_same (isOf_lt 0 (by decide) _ _)) | (go_at_call 31; exact Calls.quiet_of_same (well_any _ _ _))))
          have q2 := (QF.mk c0 c1 c2 c3 c4 e0 e1 e2 e3 e4 e5 bW).drewN nq
          generalize W1.drewN nq = W2 at q2 ⊢
          clear c0 c1 c2 c3 c4 e0 e1 e2 e3 e4 e5 bW
          obtain ⟨c0, c1, c2, c3, c4, e0, e1, e2, e3, e4, e5, bW⟩ := q2
          go_wp2_with fail
          go_quiet ((first | (go_at_call 32; exact Calls.quiet_of_same (isOf_lt 0 (by decide) _ _)) | (go_at_call 31; exact Calls.quiet_of_same (well_any _ _ _))))
          have q3 := (QF.mk c0 c1 c2 c3 c4 e0 e1 e2 e3 e4 e5 bW).drewN nq
          generalize W2.drewN nq = W3 at q3 ⊢
          clear c0 c1 c2 c3 c4 e0 e1 e2 e3 e4 e5 bW
          obtain ⟨c0, c1, c2, c3, c4, e0, e1, e2, e3, e4, e5, bW⟩ := q3
          go_wp2_with (go_at_call 32; refine (isOf_lt 0 (by decide) _ _).mono ?_; rintro e w' ⟨rfl, rfl⟩)
          go_ret2
          exact ⟨by rw [encO_bad HO.out]; rfl, bW⟩
      · have wd' : well d false = false := by simpa using wd
        have HO : Hid (okB (sh k) s t d m = false) := by show okB _ _ _ _ _ = _; rw [hsh]; simp [okB, hasS, hasT, hasD, lt, ltL, wd']
        go_enter Tryz.func9, Tryz.ntmps9
        go_wp2_with (go_at_call 30; refine (rowOf_in k k0 k1 _).mono ?_; rintro e w1 ⟨rfl, hb1⟩)
        have bA : Below w.heap.size w w1 := ((Below.refl _ _).alloc (Nat.le_refl _) _).trans (hb1.mono (by simp))
        have bF : ∀ o, Below w.heap.size w (w1.alloc o) := fun o => bA.alloc bA.size _
        have c : ∀ q, w1.cell? ⟨w.heap.size, q, none⟩ = _ := fun q => hb1.cell (p := ⟨w.heap.size, q, none⟩) (by simp)
        have c0 := c 0
        have c1 := c 1
        have c2 := c 2
        have c3 := c 3
        have c4 := c 4
        clear c
        simp at c0 c1 c2 c3 c4
        have hz1 : w.heap.size < w1.heap.size := by have := hb1.size; simp at this; omega
        clear hb1
        have q0 : QF w.heap.size w1.heap.size w (w1.alloc (.cells #[.string ⟨(nme k).toArray⟩, .int .i64 (0), .int .i64 (mn k), .string ⟨(lt 0).toArray⟩, .string ⟨(ordr k).toArray⟩, .string ⟨(kindR k).toArray⟩] 67)) k s t d m ⟨(nme k).toArray⟩ (0) (mn k) ⟨(lt 0).toArray⟩ ⟨(ordr k).toArray⟩ ⟨(kindR k).toArray⟩ :=
          ⟨by rw [World.cell?_alloc_lt _ _ _ hz1]; exact c0, by rw [World.cell?_alloc_lt _ _ _ hz1]; exact c1, by rw [World.cell?_alloc_lt _ _ _ hz1]; exact c2, by rw [World.cell?_alloc_lt _ _ _ hz1]; exact c3, by rw [World.cell?_alloc_lt _ _ _ hz1]; exact c4, by simp, by simp, by simp, by simp, by simp, by simp, bF _⟩
        go_wp2_with fail
        generalize w1.alloc (.cells #[.string ⟨(nme k).toArray⟩, .int .i64 (0), .int .i64 (mn k), .string ⟨(lt 0).toArray⟩, .string ⟨(ordr k).toArray⟩, .string ⟨(kindR k).toArray⟩] 67) = W0 at q0 ⊢
        clear c0 c1 c2 c3 c4
        obtain ⟨c0, c1, c2, c3, c4, e0, e1, e2, e3, e4, e5, bW⟩ := q0
        go_quiet ((first | (go_at_call 32; exact Calls.quiet_of_same (isOf_lt 0 (by decide) _ _)) | (go_at_call 31; exact Calls.quiet_of_same (well_any _ _ _))))
        have q1 := (QF.mk c0 c1 c2 c3 c4 e0 e1 e2 e3 e4 e5 bW).drewN nq
        generalize W0.drewN nq = W1 at q1 ⊢
        clear c0 c1 c2 c3 c4 e0 e1 e2 e3 e4 e5 bW
        obtain ⟨c0, c1, c2, c3, c4, e0, e1, e2, e3, e4, e5, bW⟩ := q1
        go_wp2_with fail
        go_quiet ((first | (go_at_call 32; exact Calls.quiet_of_same (isOf_lt 0 (by decide) _ _)) | (go_at_call 31; exact Calls.quiet_of_same (well_any _ _ _))))
        have q2 := (QF.mk c0 c1 c2 c3 c4 e0 e1 e2 e3 e4 e5 bW).drewN nq
        generalize W1.drewN nq = W2 at q2 ⊢
        clear c0 c1 c2 c3 c4 e0 e1 e2 e3 e4 e5 bW
        obtain ⟨c0, c1, c2, c3, c4, e0, e1, e2, e3, e4, e5, bW⟩ := q2
        go_wp2_with fail
        go_quiet ((first | (go_at_call 32; exact Calls.quiet_of_same (isOf_lt 0 (by decide) _ _)) | (go_at_call 31; exact Calls.quiet_of_same (well_any _ _ _))))
        have q3 := (QF.mk c0 c1 c2 c3 c4 e0 e1 e2 e3 e4 e5 bW).drewN nq
        generalize W2.drewN nq = W3 at q3 ⊢
        clear c0 c1 c2 c3 c4 e0 e1 e2 e3 e4 e5 bW
        obtain ⟨c0, c1, c2, c3, c4, e0, e1, e2, e3, e4, e5, bW⟩ := q3
        go_wp2_with (go_at_call 32; refine (isOf_lt 0 (by decide) _ _).mono ?_; rintro e w' ⟨rfl, rfl⟩)
        go_ret2
        exact ⟨by rw [encO_bad HO.out]; rfl, bW⟩
    · have wt' : well t false = false := by simpa using wt
      have HO : Hid (okB (sh k) s t d m = false) := by show okB _ _ _ _ _ = _; rw [hsh]; simp [okB, hasS, hasT, hasD, lt, ltL, wt']
      go_enter Tryz.func9, Tryz.ntmps9
      go_wp2_with (go_at_call 30; refine (rowOf_in k k0 k1 _).mono ?_; rintro e w1 ⟨rfl, hb1⟩)
      have bA : Below w.heap.size w w1 := ((Below.refl _ _).alloc (Nat.le_refl _) _).trans (hb1.mono (by simp))
      have bF : ∀ o, Below w.heap.size w (w1.alloc o) := fun o => bA.alloc bA.size _
      have c : ∀ q, w1.cell? ⟨w.heap.size, q, none⟩ = _ := fun q => hb1.cell (p := ⟨w.heap.size, q, none⟩) (by simp)
      have c0 := c 0
      have c1 := c 1
      have c2 := c 2
      have c3 := c 3
      have c4 := c 4
      clear c
      simp at c0 c1 c2 c3 c4
      have hz1 : w.heap.size < w1.heap.size := by have := hb1.size; simp at this; omega
      clear hb1
      have q0 : QF w.heap.size w1.heap.size w (w1.alloc (.cells #[.string ⟨(nme k).toArray⟩, .int .i64 (0), .int .i64 (mn k), .string ⟨(lt 0).toArray⟩, .string ⟨(ordr k).toArray⟩, .string ⟨(kindR k).toArray⟩] 67)) k s t d m ⟨(nme k).toArray⟩ (0) (mn k) ⟨(lt 0).toArray⟩ ⟨(ordr k).toArray⟩ ⟨(kindR k).toArray⟩ :=
        ⟨by rw [World.cell?_alloc_lt _ _ _ hz1]; exact c0, by rw [World.cell?_alloc_lt _ _ _ hz1]; exact c1, by rw [World.cell?_alloc_lt _ _ _ hz1]; exact c2, by rw [World.cell?_alloc_lt _ _ _ hz1]; exact c3, by rw [World.cell?_alloc_lt _ _ _ hz1]; exact c4, by simp, by simp, by simp, by simp, by simp, by simp, bF _⟩
      go_wp2_with fail
      generalize w1.alloc (.cells #[.string ⟨(nme k).toArray⟩, .int .i64 (0), .int .i64 (mn k), .string ⟨(lt 0).toArray⟩, .string ⟨(ordr k).toArray⟩, .string ⟨(kindR k).toArray⟩] 67) = W0 at q0 ⊢
      clear c0 c1 c2 c3 c4
      obtain ⟨c0, c1, c2, c3, c4, e0, e1, e2, e3, e4, e5, bW⟩ := q0
      go_quiet ((first | (go_at_call 32; exact Calls.quiet_of_same (isOf_lt 0 (by decide) _ _)) | (go_at_call 31; exact Calls.quiet_of_same (well_any _ _ _))))
      have q1 := (QF.mk c0 c1 c2 c3 c4 e0 e1 e2 e3 e4 e5 bW).drewN nq
      generalize W0.drewN nq = W1 at q1 ⊢
      clear c0 c1 c2 c3 c4 e0 e1 e2 e3 e4 e5 bW
      obtain ⟨c0, c1, c2, c3, c4, e0, e1, e2, e3, e4, e5, bW⟩ := q1
      go_wp2_with fail
      go_quiet ((first | (go_at_call 32; exact Calls.quiet_of_same (isOf_lt 0 (by decide) _ _)) | (go_at_call 31; exact Calls.quiet_of_same (well_any _ _ _))))
      have q2 := (QF.mk c0 c1 c2 c3 c4 e0 e1 e2 e3 e4 e5 bW).drewN nq
      generalize W1.drewN nq = W2 at q2 ⊢
      clear c0 c1 c2 c3 c4 e0 e1 e2 e3 e4 e5 bW
      obtain ⟨c0, c1, c2, c3, c4, e0, e1, e2, e3, e4, e5, bW⟩ := q2
      go_wp2_with fail
      go_quiet ((first | (go_at_call 32; exact Calls.quiet_of_same (isOf_lt 0 (by decide) _ _)) | (go_at_call 31; exact Calls.quiet_of_same (well_any _ _ _))))
      have q3 := (QF.mk c0 c1 c2 c3 c4 e0 e1 e2 e3 e4 e5 bW).drewN nq
      generalize W2.drewN nq = W3 at q3 ⊢
      clear c0 c1 c2 c3 c4 e0 e1 e2 e3 e4 e5 bW
      obtain ⟨c0, c1, c2, c3, c4, e0, e1, e2, e3, e4, e5, bW⟩ := q3
      go_wp2_with (go_at_call 32; refine (isOf_lt 0 (by decide) _ _).mono ?_; rintro e w' ⟨rfl, rfl⟩)
      go_ret2
      exact ⟨by rw [encO_bad HO.out]; rfl, bW⟩
  · have ws' : well s false = false := by simpa using ws
    have HO : Hid (okB (sh k) s t d m = false) := by show okB _ _ _ _ _ = _; rw [hsh]; simp [okB, hasS, hasT, hasD, lt, ltL, ws']
    go_enter Tryz.func9, Tryz.ntmps9
    go_wp2_with (go_at_call 30; refine (rowOf_in k k0 k1 _).mono ?_; rintro e w1 ⟨rfl, hb1⟩)
    have bA : Below w.heap.size w w1 := ((Below.refl _ _).alloc (Nat.le_refl _) _).trans (hb1.mono (by simp))
    have bF : ∀ o, Below w.heap.size w (w1.alloc o) := fun o => bA.alloc bA.size _
    have c : ∀ q, w1.cell? ⟨w.heap.size, q, none⟩ = _ := fun q => hb1.cell (p := ⟨w.heap.size, q, none⟩) (by simp)
    have c0 := c 0
    have c1 := c 1
    have c2 := c 2
    have c3 := c 3
    have c4 := c 4
    clear c
    simp at c0 c1 c2 c3 c4
    have hz1 : w.heap.size < w1.heap.size := by have := hb1.size; simp at this; omega
    clear hb1
    have q0 : QF w.heap.size w1.heap.size w (w1.alloc (.cells #[.string ⟨(nme k).toArray⟩, .int .i64 (0), .int .i64 (mn k), .string ⟨(lt 0).toArray⟩, .string ⟨(ordr k).toArray⟩, .string ⟨(kindR k).toArray⟩] 67)) k s t d m ⟨(nme k).toArray⟩ (0) (mn k) ⟨(lt 0).toArray⟩ ⟨(ordr k).toArray⟩ ⟨(kindR k).toArray⟩ :=
      ⟨by rw [World.cell?_alloc_lt _ _ _ hz1]; exact c0, by rw [World.cell?_alloc_lt _ _ _ hz1]; exact c1, by rw [World.cell?_alloc_lt _ _ _ hz1]; exact c2, by rw [World.cell?_alloc_lt _ _ _ hz1]; exact c3, by rw [World.cell?_alloc_lt _ _ _ hz1]; exact c4, by simp, by simp, by simp, by simp, by simp, by simp, bF _⟩
    go_wp2_with fail
    generalize w1.alloc (.cells #[.string ⟨(nme k).toArray⟩, .int .i64 (0), .int .i64 (mn k), .string ⟨(lt 0).toArray⟩, .string ⟨(ordr k).toArray⟩, .string ⟨(kindR k).toArray⟩] 67) = W0 at q0 ⊢
    clear c0 c1 c2 c3 c4
    obtain ⟨c0, c1, c2, c3, c4, e0, e1, e2, e3, e4, e5, bW⟩ := q0
    go_quiet ((first | (go_at_call 32; exact Calls.quiet_of_same (isOf_lt 0 (by decide) _ _)) | (go_at_call 31; exact Calls.quiet_of_same (well_any _ _ _))))
    have q1 := (QF.mk c0 c1 c2 c3 c4 e0 e1 e2 e3 e4 e5 bW).drewN nq
    generalize W0.drewN nq = W1 at q1 ⊢
    clear c0 c1 c2 c3 c4 e0 e1 e2 e3 e4 e5 bW
    obtain ⟨c0, c1, c2, c3, c4, e0, e1, e2, e3, e4, e5, bW⟩ := q1
    go_wp2_with fail
    go_quiet ((first | (go_at_call 32; exact Calls.quiet_of_same (isOf_lt 0 (by decide) _ _)) | (go_at_call 31; exact Calls.quiet_of_same (well_any _ _ _))))
    have q2 := (QF.mk c0 c1 c2 c3 c4 e0 e1 e2 e3 e4 e5 bW).drewN nq
    generalize W1.drewN nq = W2 at q2 ⊢
    clear c0 c1 c2 c3 c4 e0 e1 e2 e3 e4 e5 bW
    obtain ⟨c0, c1, c2, c3, c4, e0, e1, e2, e3, e4, e5, bW⟩ := q2
    go_wp2_with fail
    go_quiet ((first | (go_at_call 32; exact Calls.quiet_of_same (isOf_lt 0 (by decide) _ _)) | (go_at_call 31; exact Calls.quiet_of_same (well_any _ _ _))))
    have q3 := (QF.mk c0 c1 c2 c3 c4 e0 e1 e2 e3 e4 e5 bW).drewN nq
    generalize W2.drewN nq = W3 at q3 ⊢
    clear c0 c1 c2 c3 c4 e0 e1 e2 e3 e4 e5 bW
    obtain ⟨c0, c1, c2, c3, c4, e0, e1, e2, e3, e4, e5, bW⟩ := q3
    go_wp2_with (go_at_call 32; refine (isOf_lt 0 (by decide) _ _).mono ?_; rintro e w' ⟨rfl, rfl⟩)
    go_ret2
    exact ⟨by rw [encO_bad HO.out]; rfl, bW⟩
set_option maxHeartbeats 4000000 in
theorem encodeOf_1 (k : Nat) (h1 : 1 ≤ k) (hk : k < 54) (hsh : sh k = 1) (hM : mj k = 0) (n0 : 0 ≤ mn k) (n1 : mn k < 64) (hfst : fst k = mn k) (s t d m : Int) (m0 : 0 ≤ m) (m1 : m < 4294967296) (w : World) :
    Calls Tryz.prog 9 #[ins k s t d m] w fun e w' => e = .returned (encO k s t d m) ∧ Below w.heap.size w w' := by
  have k0 : (1 : Int) ≤ k := by omega
  have k1 : (k : Int) < 54 := by omega
  have hfl : flds k = lt 1 := by show lt (sh k) = _; rw [hsh]
  have f83 : hasB (lt 1) 83 = false := by decide
  have f84 : hasB (lt 1) 84 = true := by decide
  have f68 : hasB (lt 1) 68 = true := by decide
  have f97 : hasB (lt 1) 97 = true := by decide
  have f105 : hasB (lt 1) 105 = false := by decide
  have f106 : hasB (lt 1) 106 = false := by decide
  by_cases ws : well s false = true
  · have bs := well_of ws
    by_cases wt : well t true = true
    · have bt := well_of wt
      by_cases wd : well d true = true
      · have bd := well_of wd
        simp at bs bt bd
        subst bs
        by_cases hm : m ≤ 31
        · have HO : Hid (okB (sh k) 0 t d m = true) := by show okB _ _ _ _ _ = _; rw [hsh]; simp [okB, hasS, hasT, hasD, hasA, hasI, hasJ, top, lt, ltL]; exact (by first | exact ⟨⟨⟨ws, wt⟩, wd⟩, by omega⟩ | (refine ⟨?_, by omega⟩; simp_all) | simp_all)
          have HE : Hid (enc k 0 t d m = mn k + 0 * 2097152 + t * 65536 + d * 2048 + m * 64) := by show enc k _ _ _ m = _; unfold enc by_; rw [hsh, hfst]; simp [hasA, lt, ltL]
          go_enter Tryz.func9, Tryz.ntmps9
          go_wp2_with (go_at_call 30; refine (rowOf_in k k0 k1 _).mono ?_; rintro e w1 ⟨rfl, hb1⟩)
          have bA : Below w.heap.size w w1 := ((Below.refl _ _).alloc (Nat.le_refl _) _).trans (hb1.mono (by simp))
          have bF : ∀ o, Below w.heap.size w (w1.alloc o) := fun o => bA.alloc bA.size _
          have c : ∀ q, w1.cell? ⟨w.heap.size, q, none⟩ = _ := fun q => hb1.cell (p := ⟨w.heap.size, q, none⟩) (by simp)
          have c0 := c 0
          have c1 := c 1
          have c2 := c 2
          have c3 := c 3
          have c4 := c 4
          clear c
          simp at c0 c1 c2 c3 c4
          have hz1 : w.heap.size < w1.heap.size := by have := hb1.size; simp at this; omega
          clear hb1
          have q0 : QF w.heap.size w1.heap.size w (w1.alloc (.cells #[.string ⟨(nme k).toArray⟩, .int .i64 (0), .int .i64 (mn k), .string ⟨(lt 1).toArray⟩, .string ⟨(ordr k).toArray⟩, .string ⟨(kindR k).toArray⟩] 67)) k 0 t d m ⟨(nme k).toArray⟩ (0) (mn k) ⟨(lt 1).toArray⟩ ⟨(ordr k).toArray⟩ ⟨(kindR k).toArray⟩ :=
            ⟨by rw [World.cell?_alloc_lt _ _ _ hz1]; exact c0, by rw [World.cell?_alloc_lt _ _ _ hz1]; exact c1, by rw [World.cell?_alloc_lt _ _ _ hz1]; exact c2, by rw [World.cell?_alloc_lt _ _ _ hz1]; exact c3, by rw [World.cell?_alloc_lt _ _ _ hz1]; exact c4, by simp, by simp, by simp, by simp, by simp, by simp, bF _⟩
          go_wp2_with fail
          generalize w1.alloc (.cells #[.string ⟨(nme k).toArray⟩, .int .i64 (0), .int .i64 (mn k), .string ⟨(lt 1).toArray⟩, .string ⟨(ordr k).toArray⟩, .string ⟨(kindR k).toArray⟩] 67) = W0 at q0 ⊢
          clear c0 c1 c2 c3 c4
          obtain ⟨c0, c1, c2, c3, c4, e0, e1, e2, e3, e4, e5, bW⟩ := q0
          go_quiet ((first | (go_at_call 32; exact Calls.quiet_of_same (isOf_lt 1 (by decide) _ _)) | (go_at_call 31; exact Calls.quiet_of_same (well_any _ _ _))))
          have q1 := (QF.mk c0 c1 c2 c3 c4 e0 e1 e2 e3 e4 e5 bW).drewN nq
          generalize W0.drewN nq = W1 at q1 ⊢
          clear c0 c1 c2 c3 c4 e0 e1 e2 e3 e4 e5 bW
          obtain ⟨c0, c1, c2, c3, c4, e0, e1, e2, e3, e4, e5, bW⟩ := q1
          go_wp2_with fail
          go_quiet ((first | (go_at_call 32; exact Calls.quiet_of_same (isOf_lt 1 (by decide) _ _)) | (go_at_call 31; exact Calls.quiet_of_same (well_any _ _ _))))
          have q2 := (QF.mk c0 c1 c2 c3 c4 e0 e1 e2 e3 e4 e5 bW).drewN nq
          generalize W1.drewN nq = W2 at q2 ⊢
          clear c0 c1 c2 c3 c4 e0 e1 e2 e3 e4 e5 bW
          obtain ⟨c0, c1, c2, c3, c4, e0, e1, e2, e3, e4, e5, bW⟩ := q2
          go_wp2_with fail
          go_quiet ((first | (go_at_call 32; exact Calls.quiet_of_same (isOf_lt 1 (by decide) _ _)) | (go_at_call 31; exact Calls.quiet_of_same (well_any _ _ _))))
          have q3 := (QF.mk c0 c1 c2 c3 c4 e0 e1 e2 e3 e4 e5 bW).drewN nq
          generalize W2.drewN nq = W3 at q3 ⊢
          clear c0 c1 c2 c3 c4 e0 e1 e2 e3 e4 e5 bW
          obtain ⟨c0, c1, c2, c3, c4, e0, e1, e2, e3, e4, e5, bW⟩ := q3
          go_wp2_with (go_at_call 32; refine (isOf_lt 1 (by decide) _ _).mono ?_; rintro e w' ⟨rfl, rfl⟩)
          go_ret2
          exact ⟨by rw [encO_ok HO.out, HE.out]; exact ret_oo (by omega) rfl, bW⟩
        · have hm' : 31 < m := by omega
          have HO : Hid (okB (sh k) 0 t d m = false) := by show okB _ _ _ _ _ = _; rw [hsh]; simp [okB, hasS, hasT, hasD, hasA, hasI, hasJ, top, lt, ltL]; intros; omega
          go_enter Tryz.func9, Tryz.ntmps9
          go_wp2_with (go_at_call 30; refine (rowOf_in k k0 k1 _).mono ?_; rintro e w1 ⟨rfl, hb1⟩)
          have bA : Below w.heap.size w w1 := ((Below.refl _ _).alloc (Nat.le_refl _) _).trans (hb1.mono (by simp))
          have bF : ∀ o, Below w.heap.size w (w1.alloc o) := fun o => bA.alloc bA.size _
          have c : ∀ q, w1.cell? ⟨w.heap.size, q, none⟩ = _ := fun q => hb1.cell (p := ⟨w.heap.size, q, none⟩) (by simp)
          have c0 := c 0
          have c1 := c 1
          have c2 := c 2
          have c3 := c 3
          have c4 := c 4
          clear c
          simp at c0 c1 c2 c3 c4
          have hz1 : w.heap.size < w1.heap.size := by have := hb1.size; simp at this; omega
          clear hb1
          have q0 : QF w.heap.size w1.heap.size w (w1.alloc (.cells #[.string ⟨(nme k).toArray⟩, .int .i64 (0), .int .i64 (mn k), .string ⟨(lt 1).toArray⟩, .string ⟨(ordr k).toArray⟩, .string ⟨(kindR k).toArray⟩] 67)) k 0 t d m ⟨(nme k).toArray⟩ (0) (mn k) ⟨(lt 1).toArray⟩ ⟨(ordr k).toArray⟩ ⟨(kindR k).toArray⟩ :=
            ⟨by rw [World.cell?_alloc_lt _ _ _ hz1]; exact c0, by rw [World.cell?_alloc_lt _ _ _ hz1]; exact c1, by rw [World.cell?_alloc_lt _ _ _ hz1]; exact c2, by rw [World.cell?_alloc_lt _ _ _ hz1]; exact c3, by rw [World.cell?_alloc_lt _ _ _ hz1]; exact c4, by simp, by simp, by simp, by simp, by simp, by simp, bF _⟩
          go_wp2_with fail
          generalize w1.alloc (.cells #[.string ⟨(nme k).toArray⟩, .int .i64 (0), .int .i64 (mn k), .string ⟨(lt 1).toArray⟩, .string ⟨(ordr k).toArray⟩, .string ⟨(kindR k).toArray⟩] 67) = W0 at q0 ⊢
          clear c0 c1 c2 c3 c4
          obtain ⟨c0, c1, c2, c3, c4, e0, e1, e2, e3, e4, e5, bW⟩ := q0
          go_quiet ((first | (go_at_call 32; exact Calls.quiet_of_same (isOf_lt 1 (by decide) _ _)) | (go_at_call 31; exact Calls.quiet_of_same (well_any _ _ _))))
          have q1 := (QF.mk c0 c1 c2 c3 c4 e0 e1 e2 e3 e4 e5 bW).drewN nq
          generalize W0.drewN nq = W1 at q1 ⊢
          clear c0 c1 c2 c3 c4 e0 e1 e2 e3 e4 e5 bW
          obtain ⟨c0, c1, c2, c3, c4, e0, e1, e2, e3, e4, e5, bW⟩ := q1
          go_wp2_with fail
          go_quiet ((first | (go_at_call 32; exact Calls.quiet_of_same (isOf_lt 1 (by decide) _ _)) | (go_at_call 31; exact Calls.quiet_of_same (well_any _ _ _))))
          have q2 := (QF.mk c0 c1 c2 c3 c4 e0 e1 e2 e3 e4 e5 bW).drewN nq
          generalize W1.drewN nq = W2 at q2 ⊢
          clear c0 c1 c2 c3 c4 e0 e1 e2 e3 e4 e5 bW
          obtain ⟨c0, c1, c2, c3, c4, e0, e1, e2, e3, e4, e5, bW⟩ := q2
          go_wp2_with fail
          go_quiet ((first | (go_at_call 32; exact Calls.quiet_of_same (isOf_lt 1 (by decide) _ _)) | (go_at_call 31; exact Calls.quiet_of_same (well_any _ _ _))))
          have q3 := (QF.mk c0 c1 c2 c3 c4 e0 e1 e2 e3 e4 e5 bW).drewN nq
          generalize W2.drewN nq = W3 at q3 ⊢
          clear c0 c1 c2 c3 c4 e0 e1 e2 e3 e4 e5 bW
          obtain ⟨c0, c1, c2, c3, c4, e0, e1, e2, e3, e4, e5, bW⟩ := q3
          go_wp2_with (go_at_call 32; refine (isOf_lt 1 (by decide) _ _).mono ?_; rintro e w' ⟨rfl, rfl⟩)
          go_ret2
          exact ⟨by rw [encO_bad HO.out]; rfl, bW⟩
      · have wd' : well d true = false := by simpa using wd
        have HO : Hid (okB (sh k) s t d m = false) := by show okB _ _ _ _ _ = _; rw [hsh]; simp [okB, hasS, hasT, hasD, lt, ltL, wd']
        go_enter Tryz.func9, Tryz.ntmps9
        go_wp2_with (go_at_call 30; refine (rowOf_in k k0 k1 _).mono ?_; rintro e w1 ⟨rfl, hb1⟩)
        have bA : Below w.heap.size w w1 := ((Below.refl _ _).alloc (Nat.le_refl _) _).trans (hb1.mono (by simp))
        have bF : ∀ o, Below w.heap.size w (w1.alloc o) := fun o => bA.alloc bA.size _
        have c : ∀ q, w1.cell? ⟨w.heap.size, q, none⟩ = _ := fun q => hb1.cell (p := ⟨w.heap.size, q, none⟩) (by simp)
        have c0 := c 0
        have c1 := c 1
        have c2 := c 2
        have c3 := c 3
        have c4 := c 4
        clear c
        simp at c0 c1 c2 c3 c4
        have hz1 : w.heap.size < w1.heap.size := by have := hb1.size; simp at this; omega
        clear hb1
        have q0 : QF w.heap.size w1.heap.size w (w1.alloc (.cells #[.string ⟨(nme k).toArray⟩, .int .i64 (0), .int .i64 (mn k), .string ⟨(lt 1).toArray⟩, .string ⟨(ordr k).toArray⟩, .string ⟨(kindR k).toArray⟩] 67)) k s t d m ⟨(nme k).toArray⟩ (0) (mn k) ⟨(lt 1).toArray⟩ ⟨(ordr k).toArray⟩ ⟨(kindR k).toArray⟩ :=
          ⟨by rw [World.cell?_alloc_lt _ _ _ hz1]; exact c0, by rw [World.cell?_alloc_lt _ _ _ hz1]; exact c1, by rw [World.cell?_alloc_lt _ _ _ hz1]; exact c2, by rw [World.cell?_alloc_lt _ _ _ hz1]; exact c3, by rw [World.cell?_alloc_lt _ _ _ hz1]; exact c4, by simp, by simp, by simp, by simp, by simp, by simp, bF _⟩
        go_wp2_with fail
        generalize w1.alloc (.cells #[.string ⟨(nme k).toArray⟩, .int .i64 (0), .int .i64 (mn k), .string ⟨(lt 1).toArray⟩, .string ⟨(ordr k).toArray⟩, .string ⟨(kindR k).toArray⟩] 67) = W0 at q0 ⊢
        clear c0 c1 c2 c3 c4
        obtain ⟨c0, c1, c2, c3, c4, e0, e1, e2, e3, e4, e5, bW⟩ := q0
        go_quiet ((first | (go_at_call 32; exact Calls.quiet_of_same (isOf_lt 1 (by decide) _ _)) | (go_at_call 31; exact Calls.quiet_of_same (well_any _ _ _))))
        have q1 := (QF.mk c0 c1 c2 c3 c4 e0 e1 e2 e3 e4 e5 bW).drewN nq
        generalize W0.drewN nq = W1 at q1 ⊢
        clear c0 c1 c2 c3 c4 e0 e1 e2 e3 e4 e5 bW
        obtain ⟨c0, c1, c2, c3, c4, e0, e1, e2, e3, e4, e5, bW⟩ := q1
        go_wp2_with fail
        go_quiet ((first | (go_at_call 32; exact Calls.quiet_of_same (isOf_lt 1 (by decide) _ _)) | (go_at_call 31; exact Calls.quiet_of_same (well_any _ _ _))))
        have q2 := (QF.mk c0 c1 c2 c3 c4 e0 e1 e2 e3 e4 e5 bW).drewN nq
        generalize W1.drewN nq = W2 at q2 ⊢
        clear c0 c1 c2 c3 c4 e0 e1 e2 e3 e4 e5 bW
        obtain ⟨c0, c1, c2, c3, c4, e0, e1, e2, e3, e4, e5, bW⟩ := q2
        go_wp2_with fail
        go_quiet ((first | (go_at_call 32; exact Calls.quiet_of_same (isOf_lt 1 (by decide) _ _)) | (go_at_call 31; exact Calls.quiet_of_same (well_any _ _ _))))
        have q3 := (QF.mk c0 c1 c2 c3 c4 e0 e1 e2 e3 e4 e5 bW).drewN nq
        generalize W2.drewN nq = W3 at q3 ⊢
        clear c0 c1 c2 c3 c4 e0 e1 e2 e3 e4 e5 bW
        obtain ⟨c0, c1, c2, c3, c4, e0, e1, e2, e3, e4, e5, bW⟩ := q3
        go_wp2_with (go_at_call 32; refine (isOf_lt 1 (by decide) _ _).mono ?_; rintro e w' ⟨rfl, rfl⟩)
        go_ret2
        exact ⟨by rw [encO_bad HO.out]; rfl, bW⟩
    · have wt' : well t true = false := by simpa using wt
      have HO : Hid (okB (sh k) s t d m = false) := by show okB _ _ _ _ _ = _; rw [hsh]; simp [okB, hasS, hasT, hasD, lt, ltL, wt']
      go_enter Tryz.func9, Tryz.ntmps9
      go_wp2_with (go_at_call 30; refine (rowOf_in k k0 k1 _).mono ?_; rintro e w1 ⟨rfl, hb1⟩)
      have bA : Below w.heap.size w w1 := ((Below.refl _ _).alloc (Nat.le_refl _) _).trans (hb1.mono (by simp))
      have bF : ∀ o, Below w.heap.size w (w1.alloc o) := fun o => bA.alloc bA.size _
      have c : ∀ q, w1.cell? ⟨w.heap.size, q, none⟩ = _ := fun q => hb1.cell (p := ⟨w.heap.size, q, none⟩) (by simp)
      have c0 := c 0
      have c1 := c 1
      have c2 := c 2
      have c3 := c 3
      have c4 := c 4
      clear c
      simp at c0 c1 c2 c3 c4
      have hz1 : w.heap.size < w1.heap.size := by have := hb1.size; simp at this; omega
      clear hb1
      have q0 : QF w.heap.size w1.heap.size w (w1.alloc (.cells #[.string ⟨(nme k).toArray⟩, .int .i64 (0), .int .i64 (mn k), .string ⟨(lt 1).toArray⟩, .string ⟨(ordr k).toArray⟩, .string ⟨(kindR k).toArray⟩] 67)) k s t d m ⟨(nme k).toArray⟩ (0) (mn k) ⟨(lt 1).toArray⟩ ⟨(ordr k).toArray⟩ ⟨(kindR k).toArray⟩ :=
        ⟨by rw [World.cell?_alloc_lt _ _ _ hz1]; exact c0, by rw [World.cell?_alloc_lt _ _ _ hz1]; exact c1, by rw [World.cell?_alloc_lt _ _ _ hz1]; exact c2, by rw [World.cell?_alloc_lt _ _ _ hz1]; exact c3, by rw [World.cell?_alloc_lt _ _ _ hz1]; exact c4, by simp, by simp, by simp, by simp, by simp, by simp, bF _⟩
      go_wp2_with fail
      generalize w1.alloc (.cells #[.string ⟨(nme k).toArray⟩, .int .i64 (0), .int .i64 (mn k), .string ⟨(lt 1).toArray⟩, .string ⟨(ordr k).toArray⟩, .string ⟨(kindR k).toArray⟩] 67) = W0 at q0 ⊢
      clear c0 c1 c2 c3 c4
      obtain ⟨c0, c1, c2, c3, c4, e0, e1, e2, e3, e4, e5, bW⟩ := q0
      go_quiet ((first | (go_at_call 32; exact Calls.quiet_of_same (isOf_lt 1 (by decide) _ _)) | (go_at_call 31; exact Calls.quiet_of_same (well_any _ _ _))))
      have q1 := (QF.mk c0 c1 c2 c3 c4 e0 e1 e2 e3 e4 e5 bW).drewN nq
      generalize W0.drewN nq = W1 at q1 ⊢
      clear c0 c1 c2 c3 c4 e0 e1 e2 e3 e4 e5 bW
      obtain ⟨c0, c1, c2, c3, c4, e0, e1, e2, e3, e4, e5, bW⟩ := q1
      go_wp2_with fail
      go_quiet ((first | (go_at_call 32; exact Calls.quiet_of_same (isOf_lt 1 (by decide) _ _)) | (go_at_call 31; exact Calls.quiet_of_same (well_any _ _ _))))
      have q2 := (QF.mk c0 c1 c2 c3 c4 e0 e1 e2 e3 e4 e5 bW).drewN nq
      generalize W1.drewN nq = W2 at q2 ⊢
      clear c0 c1 c2 c3 c4 e0 e1 e2 e3 e4 e5 bW
      obtain ⟨c0, c1, c2, c3, c4, e0, e1, e2, e3, e4, e5, bW⟩ := q2
      go_wp2_with fail
      go_quiet ((first | (go_at_call 32; exact Calls.quiet_of_same (isOf_lt 1 (by decide) _ _)) | (go_at_call 31; exact Calls.quiet_of_same (well_any _ _ _))))
      have q3 := (QF.mk c0 c1 c2 c3 c4 e0 e1 e2 e3 e4 e5 bW).drewN nq
      generalize W2.drewN nq = W3 at q3 ⊢
      clear c0 c1 c2 c3 c4 e0 e1 e2 e3 e4 e5 bW
      obtain ⟨c0, c1, c2, c3, c4, e0, e1, e2, e3, e4, e5, bW⟩ := q3
      go_wp2_with (go_at_call 32; refine (isOf_lt 1 (by decide) _ _).mono ?_; rintro e w' ⟨rfl, rfl⟩)
      go_ret2
      exact ⟨by rw [encO_bad HO.out]; rfl, bW⟩
  · have ws' : well s false = false := by simpa using ws
    have HO : Hid (okB (sh k) s t d m = false) := by show okB _ _ _ _ _ = _; rw [hsh]; simp [okB, hasS, hasT, hasD, lt, ltL, ws']
    go_enter Tryz.func9, Tryz.ntmps9
    go_wp2_with (go_at_call 30; refine (rowOf_in k k0 k1 _).mono ?_; rintro e w1 ⟨rfl, hb1⟩)
    have bA : Below w.heap.size w w1 := ((Below.refl _ _).alloc (Nat.le_refl _) _).trans (hb1.mono (by simp))
    have bF : ∀ o, Below w.heap.size w (w1.alloc o) := fun o => bA.alloc bA.size _
    have c : ∀ q, w1.cell? ⟨w.heap.size, q, none⟩ = _ := fun q => hb1.cell (p := ⟨w.heap.size, q, none⟩) (by simp)
    have c0 := c 0
    have c1 := c 1
    have c2 := c 2
    have c3 := c 3
    have c4 := c 4
    clear c
    simp at c0 c1 c2 c3 c4
    have hz1 : w.heap.size < w1.heap.size := by have := hb1.size; simp at this; omega
    clear hb1
    have q0 : QF w.heap.size w1.heap.size w (w1.alloc (.cells #[.string ⟨(nme k).toArray⟩, .int .i64 (0), .int .i64 (mn k), .string ⟨(lt 1).toArray⟩, .string ⟨(ordr k).toArray⟩, .string ⟨(kindR k).toArray⟩] 67)) k s t d m ⟨(nme k).toArray⟩ (0) (mn k) ⟨(lt 1).toArray⟩ ⟨(ordr k).toArray⟩ ⟨(kindR k).toArray⟩ :=
      ⟨by rw [World.cell?_alloc_lt _ _ _ hz1]; exact c0, by rw [World.cell?_alloc_lt _ _ _ hz1]; exact c1, by rw [World.cell?_alloc_lt _ _ _ hz1]; exact c2, by rw [World.cell?_alloc_lt _ _ _ hz1]; exact c3, by rw [World.cell?_alloc_lt _ _ _ hz1]; exact c4, by simp, by simp, by simp, by simp, by simp, by simp, bF _⟩
    go_wp2_with fail
    generalize w1.alloc (.cells #[.string ⟨(nme k).toArray⟩, .int .i64 (0), .int .i64 (mn k), .string ⟨(lt 1).toArray⟩, .string ⟨(ordr k).toArray⟩, .string ⟨(kindR k).toArray⟩] 67) = W0 at q0 ⊢
    clear c0 c1 c2 c3 c4
    obtain ⟨c0, c1, c2, c3, c4, e0, e1, e2, e3, e4, e5, bW⟩ := q0
    go_quiet ((first | (go_at_call 32; exact Calls.quiet_of_same (isOf_lt 1 (by decide) _ _)) | (go_at_call 31; exact Calls.quiet_of_same (well_any _ _ _))))
    have q1 := (QF.mk c0 c1 c2 c3 c4 e0 e1 e2 e3 e4 e5 bW).drewN nq
    generalize W0.drewN nq = W1 at q1 ⊢
    clear c0 c1 c2 c3 c4 e0 e1 e2 e3 e4 e5 bW
    obtain ⟨c0, c1, c2, c3, c4, e0, e1, e2, e3, e4, e5, bW⟩ := q1
    go_wp2_with fail
    go_quiet ((first | (go_at_call 32; exact Calls.quiet_of_same (isOf_lt 1 (by decide) _ _)) | (go_at_call 31; exact Calls.quiet_of_same (well_any _ _ _))))
    have q2 := (QF.mk c0 c1 c2 c3 c4 e0 e1 e2 e3 e4 e5 bW).drewN nq
    generalize W1.drewN nq = W2 at q2 ⊢
    clear c0 c1 c2 c3 c4 e0 e1 e2 e3 e4 e5 bW
    obtain ⟨c0, c1, c2, c3, c4, e0, e1, e2, e3, e4, e5, bW⟩ := q2
    go_wp2_with fail
    go_quiet ((first | (go_at_call 32; exact Calls.quiet_of_same (isOf_lt 1 (by decide) _ _)) | (go_at_call 31; exact Calls.quiet_of_same (well_any _ _ _))))
    have q3 := (QF.mk c0 c1 c2 c3 c4 e0 e1 e2 e3 e4 e5 bW).drewN nq
    generalize W2.drewN nq = W3 at q3 ⊢
    clear c0 c1 c2 c3 c4 e0 e1 e2 e3 e4 e5 bW
    obtain ⟨c0, c1, c2, c3, c4, e0, e1, e2, e3, e4, e5, bW⟩ := q3
    go_wp2_with (go_at_call 32; refine (isOf_lt 1 (by decide) _ _).mono ?_; rintro e w' ⟨rfl, rfl⟩)
    go_ret2
    exact ⟨by rw [encO_bad HO.out]; rfl, bW⟩
set_option maxHeartbeats 4000000 in
theorem encodeOf_2 (k : Nat) (h1 : 1 ≤ k) (hk : k < 54) (hsh : sh k = 2) (hM : mj k = 0) (n0 : 0 ≤ mn k) (n1 : mn k < 64) (hfst : fst k = mn k) (s t d m : Int) (m0 : 0 ≤ m) (m1 : m < 4294967296) (w : World) :
    Calls Tryz.prog 9 #[ins k s t d m] w fun e w' => e = .returned (encO k s t d m) ∧ Below w.heap.size w w' := by
  have k0 : (1 : Int) ≤ k := by omega
  have k1 : (k : Int) < 54 := by omega
  have hfl : flds k = lt 2 := by show lt (sh k) = _; rw [hsh]
  have f83 : hasB (lt 2) 83 = true := by decide
  have f84 : hasB (lt 2) 84 = true := by decide
  have f68 : hasB (lt 2) 68 = true := by decide
  have f97 : hasB (lt 2) 97 = false := by decide
  have f105 : hasB (lt 2) 105 = false := by decide
  have f106 : hasB (lt 2) 106 = false := by decide
  by_cases ws : well s true = true
  · have bs := well_of ws
    by_cases wt : well t true = true
    · have bt := well_of wt
      by_cases wd : well d true = true
      · have bd := well_of wd
        simp at bs bt bd
        by_cases hm : m ≤ 0
        · have HO : Hid (okB (sh k) s t d m = true) := by show okB _ _ _ _ _ = _; rw [hsh]; simp [okB, hasS, hasT, hasD, hasA, hasI, hasJ, top, lt, ltL]; exact (by first | exact ⟨⟨⟨ws, wt⟩, wd⟩, by omega⟩ | (refine ⟨?_, by omega⟩; simp_all) | simp_all)
          have HE : Hid (enc k s t d m = mn k + s * 2097152 + t * 65536 + d * 2048 + m * 1) := by show enc k _ _ _ m = _; unfold enc by_; rw [hsh, hfst]; simp [hasA, lt, ltL]
          go_enter Tryz.func9, Tryz.ntmps9
          go_wp2_with (go_at_call 30; refine (rowOf_in k k0 k1 _).mono ?_; rintro e w1 ⟨rfl, hb1⟩)
          have bA : Below w.heap.size w w1 := ((Below.refl _ _).alloc (Nat.le_refl _) _).trans (hb1.mono (by simp))
          have bF : ∀ o, Below w.heap.size w (w1.alloc o) := fun o => bA.alloc bA.size _
          have c : ∀ q, w1.cell? ⟨w.heap.size, q, none⟩ = _ := fun q => hb1.cell (p := ⟨w.heap.size, q, none⟩) (by simp)
          have c0 := c 0
          have c1 := c 1
          have c2 := c 2
          have c3 := c 3
          have c4 := c 4
          clear c
          simp at c0 c1 c2 c3 c4
          have hz1 : w.heap.size < w1.heap.size := by have := hb1.size; simp at this; omega
          clear hb1
          have q0 : QF w.heap.size w1.heap.size w (w1.alloc (.cells #[.string ⟨(nme k).toArray⟩, .int .i64 (0), .int .i64 (mn k), .string ⟨(lt 2).toArray⟩, .string ⟨(ordr k).toArray⟩, .string ⟨(kindR k).toArray⟩] 67)) k s t d m ⟨(nme k).toArray⟩ (0) (mn k) ⟨(lt 2).toArray⟩ ⟨(ordr k).toArray⟩ ⟨(kindR k).toArray⟩ :=
            ⟨by rw [World.cell?_alloc_lt _ _ _ hz1]; exact c0, by rw [World.cell?_alloc_lt _ _ _ hz1]; exact c1, by rw [World.cell?_alloc_lt _ _ _ hz1]; exact c2, by rw [World.cell?_alloc_lt _ _ _ hz1]; exact c3, by rw [World.cell?_alloc_lt _ _ _ hz1]; exact c4, by simp, by simp, by simp, by simp, by simp, by simp, bF _⟩
          go_wp2_with fail
          generalize w1.alloc (.cells #[.string ⟨(nme k).toArray⟩, .int .i64 (0), .int .i64 (mn k), .string ⟨(lt 2).toArray⟩, .string ⟨(ordr k).toArray⟩, .string ⟨(kindR k).toArray⟩] 67) = W0 at q0 ⊢
          clear c0 c1 c2 c3 c4
          obtain ⟨c0, c1, c2, c3, c4, e0, e1, e2, e3, e4, e5, bW⟩ := q0
          go_quiet ((first | (go_at_call 32; exact Calls.quiet_of_same (isOf_lt 2 (by decide) _ _)) | (go_at_call 31; exact Calls.quiet_of_same (well_any _ _ _))))
          have q1 := (QF.mk c0 c1 c2 c3 c4 e0 e1 e2 e3 e4 e5 bW).drewN nq
          generalize W0.drewN nq = W1 at q1 ⊢
          clear c0 c1 c2 c3 c4 e0 e1 e2 e3 e4 e5 bW
          obtain ⟨c0, c1, c2, c3, c4, e0, e1, e2, e3, e4, e5, bW⟩ := q1
          go_wp2_with fail
          go_quiet ((first | (go_at_call 32; exact Calls.quiet_of_same (isOf_lt 2 (by decide) _ _)) | (go_at_call 31; exact Calls.quiet_of_same (well_any _ _ _))))
          have q2 := (QF.mk c0 c1 c2 c3 c4 e0 e1 e2 e3 e4 e5 bW).drewN nq
          generalize W1.drewN nq = W2 at q2 ⊢
          clear c0 c1 c2 c3 c4 e0 e1 e2 e3 e4 e5 bW
          obtain ⟨c0, c1, c2, c3, c4, e0, e1, e2, e3, e4, e5, bW⟩ := q2
          go_wp2_with fail
          go_quiet ((first | (go_at_call 32; exact Calls.quiet_of_same (isOf_lt 2 (by decide) _ _)) | (go_at_call 31; exact Calls.quiet_of_same (well_any _ _ _))))
          have q3 := (QF.mk c0 c1 c2 c3 c4 e0 e1 e2 e3 e4 e5 bW).drewN nq
          generalize W2.drewN nq = W3 at q3 ⊢
          clear c0 c1 c2 c3 c4 e0 e1 e2 e3 e4 e5 bW
          obtain ⟨c0, c1, c2, c3, c4, e0, e1, e2, e3, e4, e5, bW⟩ := q3
          go_wp2_with (go_at_call 32; refine (isOf_lt 2 (by decide) _ _).mono ?_; rintro e w' ⟨rfl, rfl⟩)
          go_ret2
          exact ⟨by rw [encO_ok HO.out, HE.out]; exact ret_oo (by omega) rfl, bW⟩
        · have hm' : 0 < m := by omega
          have HO : Hid (okB (sh k) s t d m = false) := by show okB _ _ _ _ _ = _; rw [hsh]; simp [okB, hasS, hasT, hasD, hasA, hasI, hasJ, top, lt, ltL]; intros; omega
          go_enter Tryz.func9, Tryz.ntmps9
          go_wp2_with (go_at_call 30; refine (rowOf_in k k0 k1 _).mono ?_; rintro e w1 ⟨rfl, hb1⟩)
          have bA : Below w.heap.size w w1 := ((Below.refl _ _).alloc (Nat.le_refl _) _).trans (hb1.mono (by simp))
          have bF : ∀ o, Below w.heap.size w (w1.alloc o) := fun o => bA.alloc bA.size _
          have c : ∀ q, w1.cell? ⟨w.heap.size, q, none⟩ = _ := fun q => hb1.cell (p := ⟨w.heap.size, q, none⟩) (by simp)
          have c0 := c 0
          have c1 := c 1
          have c2 := c 2
          have c3 := c 3
          have c4 := c 4
          clear c
          simp at c0 c1 c2 c3 c4
          have hz1 : w.heap.size < w1.heap.size := by have := hb1.size; simp at this; omega
          clear hb1
          have q0 : QF w.heap.size w1.heap.size w (w1.alloc (.cells #[.string ⟨(nme k).toArray⟩, .int .i64 (0), .int .i64 (mn k), .string ⟨(lt 2).toArray⟩, .string ⟨(ordr k).toArray⟩, .string ⟨(kindR k).toArray⟩] 67)) k s t d m ⟨(nme k).toArray⟩ (0) (mn k) ⟨(lt 2).toArray⟩ ⟨(ordr k).toArray⟩ ⟨(kindR k).toArray⟩ :=
            ⟨by rw [World.cell?_alloc_lt _ _ _ hz1]; exact c0, by rw [World.cell?_alloc_lt _ _ _ hz1]; exact c1, by rw [World.cell?_alloc_lt _ _ _ hz1]; exact c2, by rw [World.cell?_alloc_lt _ _ _ hz1]; exact c3, by rw [World.cell?_alloc_lt _ _ _ hz1]; exact c4, by simp, by simp, by simp, by simp, by simp, by simp, bF _⟩
          go_wp2_with fail
          generalize w1.alloc (.cells #[.string ⟨(nme k).toArray⟩, .int .i64 (0), .int .i64 (mn k), .string ⟨(lt 2).toArray⟩, .string ⟨(ordr k).toArray⟩, .string ⟨(kindR k).toArray⟩] 67) = W0 at q0 ⊢
          clear c0 c1 c2 c3 c4
          obtain ⟨c0, c1, c2, c3, c4, e0, e1, e2, e3, e4, e5, bW⟩ := q0
          go_quiet ((first | (go_at_call 32; exact Calls.quiet_of_same (isOf_lt 2 (by decide) _ _)) | (go_at_call 31; exact Calls.quiet_of_same (well_any _ _ _))))
          have q1 := (QF.mk c0 c1 c2 c3 c4 e0 e1 e2 e3 e4 e5 bW).drewN nq
          generalize W0.drewN nq = W1 at q1 ⊢
          clear c0 c1 c2 c3 c4 e0 e1 e2 e3 e4 e5 bW
          obtain ⟨c0, c1, c2, c3, c4, e0, e1, e2, e3, e4, e5, bW⟩ := q1
          go_wp2_with fail
          go_quiet ((first | (go_at_call 32; exact Calls.quiet_of_same (isOf_lt 2 (by decide) _ _)) | (go_at_call 31; exact Calls.quiet_of_same (well_any _ _ _))))
          have q2 := (QF.mk c0 c1 c2 c3 c4 e0 e1 e2 e3 e4 e5 bW).drewN nq
          generalize W1.drewN nq = W2 at q2 ⊢
          clear c0 c1 c2 c3 c4 e0 e1 e2 e3 e4 e5 bW
          obtain ⟨c0, c1, c2, c3, c4, e0, e1, e2, e3, e4, e5, bW⟩ := q2
          go_wp2_with fail
          go_quiet ((first | (go_at_call 32; exact Calls.quiet_of_same (isOf_lt 2 (by decide) _ _)) | (go_at_call 31; exact Calls.quiet_of_same (well_any _ _ _))))
          have q3 := (QF.mk c0 c1 c2 c3 c4 e0 e1 e2 e3 e4 e5 bW).drewN nq
          generalize W2.drewN nq = W3 at q3 ⊢
          clear c0 c1 c2 c3 c4 e0 e1 e2 e3 e4 e5 bW
          obtain ⟨c0, c1, c2, c3, c4, e0, e1, e2, e3, e4, e5, bW⟩ := q3
          go_wp2_with (go_at_call 32; refine (isOf_lt 2 (by decide) _ _).mono ?_; rintro e w' ⟨rfl, rfl⟩)
          go_ret2
          exact ⟨by rw [encO_bad HO.out]; rfl, bW⟩
      · have wd' : well d true = false := by simpa using wd
        have HO : Hid (okB (sh k) s t d m = false) := by show okB _ _ _ _ _ = _; rw [hsh]; simp [okB, hasS, hasT, hasD, lt, ltL, wd']
        go_enter Tryz.func9, Tryz.ntmps9
        go_wp2_with (go_at_call 30; refine (rowOf_in k k0 k1 _).mono ?_; rintro e w1 ⟨rfl, hb1⟩)
        have bA : Below w.heap.size w w1 := ((Below.refl _ _).alloc (Nat.le_refl _) _).trans (hb1.mono (by simp))
        have bF : ∀ o, Below w.heap.size w (w1.alloc o) := fun o => bA.alloc bA.size _
        have c : ∀ q, w1.cell? ⟨w.heap.size, q, none⟩ = _ := fun q => hb1.cell (p := ⟨w.heap.size, q, none⟩) (by simp)
        have c0 := c 0
        have c1 := c 1
        have c2 := c 2
        have c3 := c 3
        have c4 := c 4
        clear c
        simp at c0 c1 c2 c3 c4
        have hz1 : w.heap.size < w1.heap.size := by have := hb1.size; simp at this; omega
        clear hb1
        have q0 : QF w.heap.size w1.heap.size w (w1.alloc (.cells #[.string ⟨(nme k).toArray⟩, .int .i64 (0), .int .i64 (mn k), .string ⟨(lt 2).toArray⟩, .string ⟨(ordr k).toArray⟩, .string ⟨(kindR k).toArray⟩] 67)) k s t d m ⟨(nme k).toArray⟩ (0) (mn k) ⟨(lt 2).toArray⟩ ⟨(ordr k).toArray⟩ ⟨(kindR k).toArray⟩ :=
          ⟨by rw [World.cell?_alloc_lt _ _ _ hz1]; exact c0, by rw [World.cell?_alloc_lt _ _ _ hz1]; exact c1, by rw [World.cell?_alloc_lt _ _ _ hz1]; exact c2, by rw [World.cell?_alloc_lt _ _ _ hz1]; exact c3, by rw [World.cell?_alloc_lt _ _ _ hz1]; exact c4, by simp, by simp, by simp, by simp, by simp, by simp, bF _⟩
        go_wp2_with fail
        generalize w1.alloc (.cells #[.string ⟨(nme k).toArray⟩, .int .i64 (0), .int .i64 (mn k), .string ⟨(lt 2).toArray⟩, .string ⟨(ordr k).toArray⟩, .string ⟨(kindR k).toArray⟩] 67) = W0 at q0 ⊢
        clear c0 c1 c2 c3 c4
        obtain ⟨c0, c1, c2, c3, c4, e0, e1, e2, e3, e4, e5, bW⟩ := q0
        go_quiet ((first | (go_at_call 32; exact Calls.quiet_of_same (isOf_lt 2 (by decide) _ _)) | (go_at_call 31; exact Calls.quiet_of_same (well_any _ _ _))))
        have q1 := (QF.mk c0 c1 c2 c3 c4 e0 e1 e2 e3 e4 e5 bW).drewN nq
        generalize W0.drewN nq = W1 at q1 ⊢
        clear c0 c1 c2 c3 c4 e0 e1 e2 e3 e4 e5 bW
        obtain ⟨c0, c1, c2, c3, c4, e0, e1, e2, e3, e4, e5, bW⟩ := q1
        go_wp2_with fail
        go_quiet ((first | (go_at_call 32; exact Calls.quiet_of_same (isOf_lt 2 (by decide) _ _)) | (go_at_call 31; exact Calls.quiet_of_same (well_any _ _ _))))
        have q2 := (QF.mk c0 c1 c2 c3 c4 e0 e1 e2 e3 e4 e5 bW).drewN nq
        generalize W1.drewN nq = W2 at q2 ⊢
        clear c0 c1 c2 c3 c4 e0 e1 e2 e3 e4 e5 bW
        obtain ⟨c0, c1, c2, c3, c4, e0, e1, e2, e3, e4, e5, bW⟩ := q2
        go_wp2_with fail
        go_quiet ((first | (go_at_call 32; exact Calls.quiet_of_same (isOf_lt 2 (by decide) _ _)) | (go_at_call 31; exact Calls.quiet_of_same (well_any _ _ _))))
        have q3 := (QF.mk c0 c1 c2 c3 c4 e0 e1 e2 e3 e4 e5 bW).drewN nq
        generalize W2.drewN nq = W3 at q3 ⊢
        clear c0 c1 c2 c3 c4 e0 e1 e2 e3 e4 e5 bW
        obtain ⟨c0, c1, c2, c3, c4, e0, e1, e2, e3, e4, e5, bW⟩ := q3
        go_wp2_with (go_at_call 32; refine (isOf_lt 2 (by decide) _ _).mono ?_; rintro e w' ⟨rfl, rfl⟩)
        go_ret2
        exact ⟨by rw [encO_bad HO.out]; rfl, bW⟩
    · have wt' : well t true = false := by simpa using wt
      have HO : Hid (okB (sh k) s t d m = false) := by show okB _ _ _ _ _ = _; rw [hsh]; simp [okB, hasS, hasT, hasD, lt, ltL, wt']
      go_enter Tryz.func9, Tryz.ntmps9
      go_wp2_with (go_at_call 30; refine (rowOf_in k k0 k1 _).mono ?_; rintro e w1 ⟨rfl, hb1⟩)
      have bA : Below w.heap.size w w1 := ((Below.refl _ _).alloc (Nat.le_refl _) _).trans (hb1.mono (by simp))
      have bF : ∀ o, Below w.heap.size w (w1.alloc o) := fun o => bA.alloc bA.size _
      have c : ∀ q, w1.cell? ⟨w.heap.size, q, none⟩ = _ := fun q => hb1.cell (p := ⟨w.heap.size, q, none⟩) (by simp)
      have c0 := c 0
      have c1 := c 1
      have c2 := c 2
      have c3 := c 3
      have c4 := c 4
      clear c
      simp at c0 c1 c2 c3 c4
      have hz1 : w.heap.size < w1.heap.size := by have := hb1.size; simp at this; omega
      clear hb1
      have q0 : QF w.heap.size w1.heap.size w (w1.alloc (.cells #[.string ⟨(nme k).toArray⟩, .int .i64 (0), .int .i64 (mn k), .string ⟨(lt 2).toArray⟩, .string ⟨(ordr k).toArray⟩, .string ⟨(kindR k).toArray⟩] 67)) k s t d m ⟨(nme k).toArray⟩ (0) (mn k) ⟨(lt 2).toArray⟩ ⟨(ordr k).toArray⟩ ⟨(kindR k).toArray⟩ :=
        ⟨by rw [World.cell?_alloc_lt _ _ _ hz1]; exact c0, by rw [World.cell?_alloc_lt _ _ _ hz1]; exact c1, by rw [World.cell?_alloc_lt _ _ _ hz1]; exact c2, by rw [World.cell?_alloc_lt _ _ _ hz1]; exact c3, by rw [World.cell?_alloc_lt _ _ _ hz1]; exact c4, by simp, by simp, by simp, by simp, by simp, by simp, bF _⟩
      go_wp2_with fail
      generalize w1.alloc (.cells #[.string ⟨(nme k).toArray⟩, .int .i64 (0), .int .i64 (mn k), .string ⟨(lt 2).toArray⟩, .string ⟨(ordr k).toArray⟩, .string ⟨(kindR k).toArray⟩] 67) = W0 at q0 ⊢
      clear c0 c1 c2 c3 c4
      obtain ⟨c0, c1, c2, c3, c4, e0, e1, e2, e3, e4, e5, bW⟩ := q0
      go_quiet ((first | (go_at_call 32; exact Calls.quiet_of_same (isOf_lt 2 (by decide) _ _)) | (go_at_call 31; exact Calls.quiet_of_same (well_any _ _ _))))
      have q1 := (QF.mk c0 c1 c2 c3 c4 e0 e1 e2 e3 e4 e5 bW).drewN nq
      generalize W0.drewN nq = W1 at q1 ⊢
      clear c0 c1 c2 c3 c4 e0 e1 e2 e3 e4 e5 bW
      obtain ⟨c0, c1, c2, c3, c4, e0, e1, e2, e3, e4, e5, bW⟩ := q1
      go_wp2_with fail
      go_quiet ((first | (go_at_call 32; exact Calls.quiet_of_same (isOf_lt 2 (by decide) _ _)) | (go_at_call 31; exact Calls.quiet_of_same (well_any _ _ _))))
      have q2 := (QF.mk c0 c1 c2 c3 c4 e0 e1 e2 e3 e4 e5 bW).drewN nq
      generalize W1.drewN nq = W2 at q2 ⊢
      clear c0 c1 c2 c3 c4 e0 e1 e2 e3 e4 e5 bW
      obtain ⟨c0, c1, c2, c3, c4, e0, e1, e2, e3, e4, e5, bW⟩ := q2
      go_wp2_with fail
      go_quiet ((first | (go_at_call 32; exact Calls.quiet_of_same (isOf_lt 2 (by decide) _ _)) | (go_at_call 31; exact Calls.quiet_of_same (well_any _ _ _))))
      have q3 := (QF.mk c0 c1 c2 c3 c4 e0 e1 e2 e3 e4 e5 bW).drewN nq
      generalize W2.drewN nq = W3 at q3 ⊢
      clear c0 c1 c2 c3 c4 e0 e1 e2 e3 e4 e5 bW
      obtain ⟨c0, c1, c2, c3, c4, e0, e1, e2, e3, e4, e5, bW⟩ := q3
      go_wp2_with (go_at_call 32; refine (isOf_lt 2 (by decide) _ _).mono ?_; rintro e w' ⟨rfl, rfl⟩)
      go_ret2
      exact ⟨by rw [encO_bad HO.out]; rfl, bW⟩
  · have ws' : well s true = false := by simpa using ws
    have HO : Hid (okB (sh k) s t d m = false) := by show okB _ _ _ _ _ = _; rw [hsh]; simp [okB, hasS, hasT, hasD, lt, ltL, ws']
    go_enter Tryz.func9, Tryz.ntmps9
    go_wp2_with (go_at_call 30; refine (rowOf_in k k0 k1 _).mono ?_; rintro e w1 ⟨rfl, hb1⟩)
    have bA : Below w.heap.size w w1 := ((Below.refl _ _).alloc (Nat.le_refl _) _).trans (hb1.mono (by simp))
    have bF : ∀ o, Below w.heap.size w (w1.alloc o) := fun o => bA.alloc bA.size _
    have c : ∀ q, w1.cell? ⟨w.heap.size, q, none⟩ = _ := fun q => hb1.cell (p := ⟨w.heap.size, q, none⟩) (by simp)
    have c0 := c 0
    have c1 := c 1
    have c2 := c 2
    have c3 := c 3
    have c4 := c 4
    clear c
    simp at c0 c1 c2 c3 c4
    have hz1 : w.heap.size < w1.heap.size := by have := hb1.size; simp at this; omega
    clear hb1
    have q0 : QF w.heap.size w1.heap.size w (w1.alloc (.cells #[.string ⟨(nme k).toArray⟩, .int .i64 (0), .int .i64 (mn k), .string ⟨(lt 2).toArray⟩, .string ⟨(ordr k).toArray⟩, .string ⟨(kindR k).toArray⟩] 67)) k s t d m ⟨(nme k).toArray⟩ (0) (mn k) ⟨(lt 2).toArray⟩ ⟨(ordr k).toArray⟩ ⟨(kindR k).toArray⟩ :=
      ⟨by rw [World.cell?_alloc_lt _ _ _ hz1]; exact c0, by rw [World.cell?_alloc_lt _ _ _ hz1]; exact c1, by rw [World.cell?_alloc_lt _ _ _ hz1]; exact c2, by rw [World.cell?_alloc_lt _ _ _ hz1]; exact c3, by rw [World.cell?_alloc_lt _ _ _ hz1]; exact c4, by simp, by simp, by simp, by simp, by simp, by simp, bF _⟩
    go_wp2_with fail
    generalize w1.alloc (.cells #[.string ⟨(nme k).toArray⟩, .int .i64 (0), .int .i64 (mn k), .string ⟨(lt 2).toArray⟩, .string ⟨(ordr k).toArray⟩, .string ⟨(kindR k).toArray⟩] 67) = W0 at q0 ⊢
    clear c0 c1 c2 c3 c4
    obtain ⟨c0, c1, c2, c3, c4, e0, e1, e2, e3, e4, e5, bW⟩ := q0
    go_quiet ((first | (go_at_call 32; exact Calls.quiet_of_same (isOf_lt 2 (by decide) _ _)) | (go_at_call 31; exact Calls.quiet_of_same (well_any _ _ _))))
    have q1 := (QF.mk c0 c1 c2 c3 c4 e0 e1 e2 e3 e4 e5 bW).drewN nq
    generalize W0.drewN nq = W1 at q1 ⊢
    clear c0 c1 c2 c3 c4 e0 e1 e2 e3 e4 e5 bW
    obtain ⟨c0, c1, c2, c3, c4, e0, e1, e2, e3, e4, e5, bW⟩ := q1
    go_wp2_with fail
    go_quiet ((first | (go_at_call 32; exact Calls.quiet_of_same (isOf_lt 2 (by decide) _ _)) | (go_at_call 31; exact Calls.quiet_of_same (well_any _ _ _))))
    have q2 := (QF.mk c0 c1 c2 c3 c4 e0 e1 e2 e3 e4 e5 bW).drewN nq
    generalize W1.drewN nq = W2 at q2 ⊢
    clear c0 c1 c2 c3 c4 e0 e1 e2 e3 e4 e5 bW
    obtain ⟨c0, c1, c2, c3, c4, e0, e1, e2, e3, e4, e5, bW⟩ := q2
    go_wp2_with fail
    go_quiet ((first | (go_at_call 32; exact Calls.quiet_of_same (isOf_lt 2 (by decide) _ _)) | (go_at_call 31; exact Calls.quiet_of_same (well_any _ _ _))))
    have q3 := (QF.mk c0 c1 c2 c3 c4 e0 e1 e2 e3 e4 e5 bW).drewN nq
    generalize W2.drewN nq = W3 at q3 ⊢
    clear c0 c1 c2 c3 c4 e0 e1 e2 e3 e4 e5 bW
    obtain ⟨c0, c1, c2, c3, c4, e0, e1, e2, e3, e4, e5, bW⟩ := q3
    go_wp2_with (go_at_call 32; refine (isOf_lt 2 (by decide) _ _).mono ?_; rintro e w' ⟨rfl, rfl⟩)
    go_ret2
    exact ⟨by rw [encO_bad HO.out]; rfl, bW⟩
set_option maxHeartbeats 4000000 in
theorem encodeOf_3 (k : Nat) (h1 : 1 ≤ k) (hk : k < 54) (hsh : sh k = 3) (hM : mj k = 0) (n0 : 0 ≤ mn k) (n1 : mn k < 64) (hfst : fst k = mn k) (s t d m : Int) (m0 : 0 ≤ m) (m1 : m < 4294967296) (w : World) :
    Calls Tryz.prog 9 #[ins k s t d m] w fun e w' => e = .returned (encO k s t d m) ∧ Below w.heap.size w w' := by
  have k0 : (1 : Int) ≤ k := by omega
  have k1 : (k : Int) < 54 := by omega
  have hfl : flds k = lt 3 := by show lt (sh k) = _; rw [hsh]
  have f83 : hasB (lt 3) 83 = true := by decide
  have f84 : hasB (lt 3) 84 = false := by decide
  have f68 : hasB (lt 3) 68 = false := by decide
  have f97 : hasB (lt 3) 97 = false := by decide
  have f105 : hasB (lt 3) 105 = false := by decide
  have f106 : hasB (lt 3) 106 = false := by decide
  by_cases ws : well s true = true
  · have bs := well_of ws
    by_cases wt : well t false = true
    · have bt := well_of wt
      by_cases wd : well d false = true
      · have bd := well_of wd
        simp at bs bt bd
        subst bt
        subst bd
        by_cases hm : m ≤ 0
        · have HO : Hid (okB (sh k) s 0 0 m = true) := by show okB _ _ _ _ _ = _; rw [hsh]; simp [okB, hasS, hasT, hasD, hasA, hasI, hasJ, top, lt, ltL]; exact (by first | exact ⟨⟨⟨ws, wt⟩, wd⟩, by omega⟩ | (refine ⟨?_, by omega⟩; simp_all) | simp_all)
          have HE : Hid (enc k s 0 0 m = mn k + s * 2097152 + 0 * 65536 + 0 * 2048 + m * 1) := by show enc k _ _ _ m = _; unfold enc by_; rw [hsh, hfst]; simp [hasA, lt, ltL]
          go_enter Tryz.func9, Tryz.ntmps9
          go_wp2_with (go_at_call 30; refine (rowOf_in k k0 k1 _).mono ?_; rintro e w1 ⟨rfl, hb1⟩)
          have bA : Below w.heap.size w w1 := ((Below.refl _ _).alloc (Nat.le_refl _) _).trans (hb1.mono (by simp))
          have bF : ∀ o, Below w.heap.size w (w1.alloc o) := fun o => bA.alloc bA.size _
          have c : ∀ q, w1.cell? ⟨w.heap.size, q, none⟩ = _ := fun q => hb1.cell (p := ⟨w.heap.size, q, none⟩) (by simp)
          have c0 := c 0
          have c1 := c 1
          have c2 := c 2
          have c3 := c 3
          have c4 := c 4
          clear c
          simp at c0 c1 c2 c3 c4
          have hz1 : w.heap.size < w1.heap.size := by have := hb1.size; simp at this; omega
          clear hb1
          have q0 : QF w.heap.size w1.heap.size w (w1.alloc (.cells #[.string ⟨(nme k).toArray⟩, .int .i64 (0), .int .i64 (mn k), .string ⟨(lt 3).toArray⟩, .string ⟨(ordr k).toArray⟩, .string ⟨(kindR k).toArray⟩] 67)) k s 0 0 m ⟨(nme k).toArray⟩ (0) (mn k) ⟨(lt 3).toArray⟩ ⟨(ordr k).toArray⟩ ⟨(kindR k).toArray⟩ :=
            ⟨by rw [World.cell?_alloc_lt _ _ _ hz1]; exact c0, by rw [World.cell?_alloc_lt _ _ _ hz1]; exact c1, by rw [World.cell?_alloc_lt _ _ _ hz1]; exact c2, by rw [World.cell?_alloc_lt _ _ _ hz1]; exact c3, by rw [World.cell?_alloc_lt _ _ _ hz1]; exact c4, by simp, by simp, by simp, by simp, by simp, by simp, bF _⟩
          go_wp2_with fail
          generalize w1.alloc (.cells #[.string ⟨(nme k).toArray⟩, .int .i64 (0), .int .i64 (mn k), .string ⟨(lt 3).toArray⟩, .string ⟨(ordr k).toArray⟩, .string ⟨(kindR k).toArray⟩] 67) = W0 at q0 ⊢
          clear c0 c1 c2 c3 c4
          obtain ⟨c0, c1, c2, c3, c4, e0, e1, e2, e3, e4, e5, bW⟩ := q0
          go_quiet ((first | (go_at_call 32; exact Calls.quiet_of_same (isOf_lt 3 (by decide) _ _)) | (go_at_call 31; exact Calls.quiet_of_same (well_any _ _ _))))
          have q1 := (QF.mk c0 c1 c2 c3 c4 e0 e1 e2 e3 e4 e5 bW).drewN nq
          generalize W0.drewN nq = W1 at q1 ⊢
          clear c0 c1 c2 c3 c4 e0 e1 e2 e3 e4 e5 bW
          obtain ⟨c0, c1, c2, c3, c4, e0, e1, e2, e3, e4, e5, bW⟩ := q1
          go_wp2_with fail
          go_quiet ((first | (go_at_call 32; exact Calls.quiet_of_same (isOf_lt 3 (by decide) _ _)) | (go_at_call 31; exact Calls.quiet_of_same (well_any _ _ _))))
          have q2 := (QF.mk c0 c1 c2 c3 c4 e0 e1 e2 e3 e4 e5 bW).drewN nq
          generalize W1.drewN nq = W2 at q2 ⊢
          clear c0 c1 c2 c3 c4 e0 e1 e2 e3 e4 e5 bW
          obtain ⟨c0, c1, c2, c3, c4, e0, e1, e2, e3, e4, e5, bW⟩ := q2
          go_wp2_with fail
          go_quiet ((first | (go_at_call 32; exact Calls.quiet_of_same (isOf_lt 3 (by decide) _ _)) | (go_at_call 31; exact Calls.quiet_of_same (well_any _ _ _))))
          have q3 := (QF.mk c0 c1 c2 c3 c4 e0 e1 e2 e3 e4 e5 bW).drewN nq
          generalize W2.drewN nq = W3 at q3 ⊢
          clear c0 c1 c2 c3 c4 e0 e1 e2 e3 e4 e5 bW
          obtain ⟨c0, c1, c2, c3, c4, e0, e1, e2, e3, e4, e5, bW⟩ := q3
          go_wp2_with (go_at_call 32; refine (isOf_lt 3 (by decide) _ _).mono ?_; rintro e w' ⟨rfl, rfl⟩)
          go_ret2
          exact ⟨by rw [encO_ok HO.out, HE.out]; exact ret_oo (by omega) rfl, bW⟩
        · have hm' : 0 < m := by omega
          have HO : Hid (okB (sh k) s 0 0 m = false) := by show okB _ _ _ _ _ = _; rw [hsh]; simp [okB, hasS, hasT, hasD, hasA, hasI, hasJ, top, lt, ltL]; intros; omega
          go_enter Tryz.func9, Tryz.ntmps9
          go_wp2_with (go_at_call 30; refine (rowOf_in k k0 k1 _).mono ?_; rintro e w1 ⟨rfl, hb1⟩)
          have bA : Below w.heap.size w w1 := ((Below.refl _ _).alloc (Nat.le_refl _) _).trans (hb1.mono (by simp))
          have bF : ∀ o, Below w.heap.size w (w1.alloc o) := fun o => bA.alloc bA.size _
          have c : ∀ q, w1.cell? ⟨w.heap.size, q, none⟩ = _ := fun q => hb1.cell (p := ⟨w.heap.size, q, none⟩) (by simp)
          have c0 := c 0
          have c1 := c 1
          have c2 := c 2
          have c3 := c 3
          have c4 := c 4
          clear c
          simp at c0 c1 c2 c3 c4
          have hz1 : w.heap.size < w1.heap.size := by have := hb1.size; simp at this; omega
          clear hb1
          have q0 : QF w.heap.size w1.heap.size w (w1.alloc (.cells #[.string ⟨(nme k).toArray⟩, .int .i64 (0), .int .i64 (mn k), .string ⟨(lt 3).toArray⟩, .string ⟨(ordr k).toArray⟩, .string ⟨(kindR k).toArray⟩] 67)) k s 0 0 m ⟨(nme k).toArray⟩ (0) (mn k) ⟨(lt 3).toArray⟩ ⟨(ordr k).toArray⟩ ⟨(kindR k).toArray⟩ :=
            ⟨by rw [World.cell?_alloc_lt _ _ _ hz1]; exact c0, by rw [World.cell?_alloc_lt _ _ _ hz1]; exact c1, by rw [World.cell?_alloc_lt _ _ _ hz1]; exact c2, by rw [World.cell?_alloc_lt _ _ _ hz1]; exact c3, by rw [World.cell?_alloc_lt _ _ _ hz1]; exact c4, by simp, by simp, by simp, by simp, by simp, by simp, bF _⟩
          go_wp2_with fail
          generalize w1.alloc (.cells #[.string ⟨(nme k).toArray⟩, .int .i64 (0), .int .i64 (mn k), .string ⟨(lt 3).toArray⟩, .string ⟨(ordr k).toArray⟩, .string ⟨(kindR k).toArray⟩] 67) = W0 at q0 ⊢
          clear c0 c1 c2 c3 c4
          obtain ⟨c0, c1, c2, c3, c4, e0, e1, e2, e3, e4, e5, bW⟩ := q0
          go_quiet ((first | (go_at_call 32; exact Calls.quiet_of_same (isOf_lt 3 (by decide) _ _)) | (go_at_call 31; exact Calls.quiet_of_same (well_any _ _ _))))
          have q1 := (QF.mk c0 c1 c2 c3 c4 e0 e1 e2 e3 e4 e5 bW).drewN nq
          generalize W0.drewN nq = W1 at q1 ⊢
          clear c0 c1 c2 c3 c4 e0 e1 e2 e3 e4 e5 bW
          obtain ⟨c0, c1, c2, c3, c4, e0, e1, e2, e3, e4, e5, bW⟩ := q1
          go_wp2_with fail
          go_quiet ((first | (go_at_call 32; exact Calls.quiet_of_same (isOf_lt 3 (by decide) _ _)) | (go_at_call 31; exact Calls.quiet_of_same (well_any _ _ _))))
          have q2 := (QF.mk c0 c1 c2 c3 c4 e0 e1 e2 e3 e4 e5 bW).drewN nq
          generalize W1.drewN nq = W2 at q2 ⊢
          clear c0 c1 c2 c3 c4 e0 e1 e2 e3 e4 e5 bW
          obtain ⟨c0, c1, c2, c3, c4, e0, e1, e2, e3, e4, e5, bW⟩ := q2
          go_wp2_with fail
          go_quiet ((first | (go_at_call 32; exact Calls.quiet_of_same (isOf_lt 3 (by decide) _ _)) | (go_at_call 31; exact Calls.quiet_of_same (well_any _ _ _))))
          have q3 := (QF.mk c0 c1 c2 c3 c4 e0 e1 e2 e3 e4 e5 bW).drewN nq
          generalize W2.drewN nq = W3 at q3 ⊢
          clear c0 c1 c2 c3 c4 e0 e1 e2 e3 e4 e5 bW
          obtain ⟨c0, c1, c2, c3, c4, e0, e1, e2, e3, e4, e5, bW⟩ := q3
          go_wp2_with (go_at_call 32; refine (isOf_lt 3 (by decide) _ _).mono ?_; rintro e w' ⟨rfl, rfl⟩)
          go_ret2
          exact ⟨by rw [encO_bad HO.out]; rfl, bW⟩
      · have wd' : well d false = false := by simpa using wd
        have HO : Hid (okB (sh k) s t d m = false) := by show okB _ _ _ _ _ = _; rw [hsh]; simp [okB, hasS, hasT, hasD, lt, ltL, wd']
        go_enter Tryz.func9, Tryz.ntmps9
        go_wp2_with (go_at_call 30; refine (rowOf_in k k0 k1 _).mono ?_; rintro e w1 ⟨rfl, hb1⟩)
        have bA : Below w.heap.size w w1 := ((Below.refl _ _).alloc (Nat.le_refl _) _).trans (hb1.mono (by simp))
        have bF : ∀ o, Below w.heap.size w (w1.alloc o) := fun o => bA.alloc bA.size _
        have c : ∀ q, w1.cell? ⟨w.heap.size, q, none⟩ = _ := fun q => hb1.cell (p := ⟨w.heap.size, q, none⟩) (by simp)
        have c0 := c 0
        have c1 := c 1
        have c2 := c 2
        have c3 := c 3
        have c4 := c 4
        clear c
        simp at c0 c1 c2 c3 c4
        have hz1 : w.heap.size < w1.heap.size := by have := hb1.size; simp at this; omega
        clear hb1
        have q0 : QF w.heap.size w1.heap.size w (w1.alloc (.cells #[.string ⟨(nme k).toArray⟩, .int .i64 (0), .int .i64 (mn k), .string ⟨(lt 3).toArray⟩, .string ⟨(ordr k).toArray⟩, .string ⟨(kindR k).toArray⟩] 67)) k s t d m ⟨(nme k).toArray⟩ (0) (mn k) ⟨(lt 3).toArray⟩ ⟨(ordr k).toArray⟩ ⟨(kindR k).toArray⟩ :=
          ⟨by rw [World.cell?_alloc_lt _ _ _ hz1]; exact c0, by rw [World.cell?_alloc_lt _ _ _ hz1]; exact c1, by rw [World.cell?_alloc_lt _ _ _ hz1]; exact c2, by rw [World.cell?_alloc_lt _ _ _ hz1]; exact c3, by rw [World.cell?_alloc_lt _ _ _ hz1]; exact c4, by simp, by simp, by simp, by simp, by simp, by simp, bF _⟩
        go_wp2_with fail
        generalize w1.alloc (.cells #[.string ⟨(nme k).toArray⟩, .int .i64 (0), .int .i64 (mn k), .string ⟨(lt 3).toArray⟩, .string ⟨(ordr k).toArray⟩, .string ⟨(kindR k).toArray⟩] 67) = W0 at q0 ⊢
        clear c0 c1 c2 c3 c4
        obtain ⟨c0, c1, c2, c3, c4, e0, e1, e2, e3, e4, e5, bW⟩ := q0
        go_quiet ((first | (go_at_call 32; exact Calls.quiet_of_same (isOf_lt 3 (by decide) _ _)) | (go_at_call 31; exact Calls.quiet_of_same (well_any _ _ _))))
        have q1 := (QF.mk c0 c1 c2 c3 c4 e0 e1 e2 e3 e4 e5 bW).drewN nq
        generalize W0.drewN nq = W1 at q1 ⊢
        clear c0 c1 c2 c3 c4 e0 e1 e2 e3 e4 e5 bW
        obtain ⟨c0, c1, c2, c3, c4, e0, e1, e2, e3, e4, e5, bW⟩ := q1
        go_wp2_with fail
        go_quiet ((first | (go_at_call 32; exact Calls.quiet_of_same (isOf_lt 3 (by decide) _ _)) | (go_at_call 31; exact Calls.quiet_of_same (well_any _ _ _))))
        have q2 := (QF.mk c0 c1 c2 c3 c4 e0 e1 e2 e3 e4 e5 bW).drewN nq
        generalize W1.drewN nq = W2 at q2 ⊢
        clear c0 c1 c2 c3 c4 e0 e1 e2 e3 e4 e5 bW
        obtain ⟨c0, c1, c2, c3, c4, e0, e1, e2, e3, e4, e5, bW⟩ := q2
        go_wp2_with fail
        go_quiet ((first | (go_at_call 32; exact Calls.quiet_of_same (isOf_lt 3 (by decide) _ _)) | (go_at_call 31; exact Calls.quiet_of_same (well_any _ _ _))))
        have q3 := (QF.mk c0 c1 c2 c3 c4 e0 e1 e2 e3 e4 e5 bW).drewN nq
        generalize W2.drewN nq = W3 at q3 ⊢
        clear c0 c1 c2 c3 c4 e0 e1 e2 e3 e4 e5 bW
        obtain ⟨c0, c1, c2, c3, c4, e0, e1, e2, e3, e4, e5, bW⟩ := q3
        go_wp2_with (go_at_call 32; refine (isOf_lt 3 (by decide) _ _).mono ?_; rintro e w' ⟨rfl, rfl⟩)
        go_ret2
        exact ⟨by rw [encO_bad HO.out]; rfl, bW⟩
    · have wt' : well t false = false := by simpa using wt
      have HO : Hid (okB (sh k) s t d m = false) := by show okB _ _ _ _ _ = _; rw [hsh]; simp [okB, hasS, hasT, hasD, lt, ltL, wt']
      go_enter Tryz.func9, Tryz.ntmps9
      go_wp2_with (go_at_call 30; refine (rowOf_in k k0 k1 _).mono ?_; rintro e w1 ⟨rfl, hb1⟩)
      have bA : Below w.heap.size w w1 := ((Below.refl _ _).alloc (Nat.le_refl _) _).trans (hb1.mono (by simp))
      have bF : ∀ o, Below w.heap.size w (w1.alloc o) := fun o => bA.alloc bA.size _
      have c : ∀ q, w1.cell? ⟨w.heap.size, q, none⟩ = _ := fun q => hb1.cell (p := ⟨w.heap.size, q, none⟩) (by simp)
      have c0 := c 0
      have c1 := c 1
      have c2 := c 2
      have c3 := c 3
      have c4 := c 4
      clear c
      simp at c0 c1 c2 c3 c4
      have hz1 : w.heap.size < w1.heap.size := by have := hb1.size; simp at this; omega
      clear hb1
      have q0 : QF w.heap.size w1.heap.size w (w1.alloc (.cells #[.string ⟨(nme k).toArray⟩, .int .i64 (0), .int .i64 (mn k), .string ⟨(lt 3).toArray⟩, .string ⟨(ordr k).toArray⟩, .string ⟨(kindR k).toArray⟩] 67)) k s t d m ⟨(nme k).toArray⟩ (0) (mn k) ⟨(lt 3).toArray⟩ ⟨(ordr k).toArray⟩ ⟨(kindR k).toArray⟩ :=
        ⟨by rw [World.cell?_alloc_lt _ _ _ hz1]; exact c0, by rw [World.cell?_alloc_lt _ _ _ hz1]; exact c1, by rw [World.cell?_alloc_lt _ _ _ hz1]; exact c2, by rw [World.cell?_alloc_lt _ _ _ hz1]; exact c3, by rw [World.cell?_alloc_lt _ _ _ hz1]; exact c4, by simp, by simp, by simp, by simp, by simp, by simp, bF _⟩
      go_wp2_with fail
      generalize w1.alloc (.cells #[.string ⟨(nme k).toArray⟩, .int .i64 (0), .int .i64 (mn k), .string ⟨(lt 3).toArray⟩, .string ⟨(ordr k).toArray⟩, .string ⟨(kindR k).toArray⟩] 67) = W0 at q0 ⊢
      clear c0 c1 c2 c3 c4
      obtain ⟨c0, c1, c2, c3, c4, e0, e1, e2, e3, e4, e5, bW⟩ := q0
      go_quiet ((first | (go_at_call 32; exact Calls.quiet_of_same (isOf_lt 3 (by decide) _ _)) | (go_at_call 31; exact Calls.quiet_of_same (well_any _ _ _))))
      have q1 := (QF.mk c0 c1 c2 c3 c4 e0 e1 e2 e3 e4 e5 bW).drewN nq
      generalize W0.drewN nq = W1 at q1 ⊢
      clear c0 c1 c2 c3 c4 e0 e1 e2 e3 e4 e5 bW
      obtain ⟨c0, c1, c2, c3, c4, e0, e1, e2, e3, e4, e5, bW⟩ := q1
      go_wp2_with fail
      go_quiet ((first | (go_at_call 32; exact Calls.quiet_of_same (isOf_lt 3 (by decide) _ _)) | (go_at_call 31; exact Calls.quiet_of_same (well_any _ _ _))))
      have q2 := (QF.mk c0 c1 c2 c3 c4 e0 e1 e2 e3 e4 e5 bW).drewN nq
      generalize W1.drewN nq = W2 at q2 ⊢
      clear c0 c1 c2 c3 c4 e0 e1 e2 e3 e4 e5 bW
      obtain ⟨c0, c1, c2, c3, c4, e0, e1, e2, e3, e4, e5, bW⟩ := q2
      go_wp2_with fail
      go_quiet ((first | (go_at_call 32; exact Calls.quiet_of_same (isOf_lt 3 (by decide) _ _)) | (go_at_call 31; exact Calls.quiet_of_same (well_any _ _ _))))
      have q3 := (QF.mk c0 c1 c2 c3 c4 e0 e1 e2 e3 e4 e5 bW).drewN nq
      generalize W2.drewN nq = W3 at q3 ⊢
      clear c0 c1 c2 c3 c4 e0 e1 e2 e3 e4 e5 bW
      obtain ⟨c0, c1, c2, c3, c4, e0, e1, e2, e3, e4, e5, bW⟩ := q3
      go_wp2_with (go_at_call 32; refine (isOf_lt 3 (by decide) _ _).mono ?_; rintro e w' ⟨rfl, rfl⟩)
      go_ret2
      exact ⟨by rw [encO_bad HO.out]; rfl, bW⟩
  · have ws' : well s true = false := by simpa using ws
    have HO : Hid (okB (sh k) s t d m = false) := by show okB _ _ _ _ _ = _; rw [hsh]; simp [okB, hasS, hasT, hasD, lt, ltL, ws']
    go_enter Tryz.func9, Tryz.ntmps9
    go_wp2_with (go_at_call 30; refine (rowOf_in k k0 k1 _).mono ?_; rintro e w1 ⟨rfl, hb1⟩)
    have bA : Below w.heap.size w w1 := ((Below.refl _ _).alloc (Nat.le_refl _) _).trans (hb1.mono (by simp))
    have bF : ∀ o, Below w.heap.size w (w1.alloc o) := fun o => bA.alloc bA.size _
    have c : ∀ q, w1.cell? ⟨w.heap.size, q, none⟩ = _ := fun q => hb1.cell (p := ⟨w.heap.size, q, none⟩) (by simp)
    have c0 := c 0
    have c1 := c 1
    have c2 := c 2
    have c3 := c 3
    have c4 := c 4
    clear c
    simp at c0 c1 c2 c3 c4
    have hz1 : w.heap.size < w1.heap.size := by have := hb1.size; simp at this; omega
    clear hb1
    have q0 : QF w.heap.size w1.heap.size w (w1.alloc (.cells #[.string ⟨(nme k).toArray⟩, .int .i64 (0), .int .i64 (mn k), .string ⟨(lt 3).toArray⟩, .string ⟨(ordr k).toArray⟩, .string ⟨(kindR k).toArray⟩] 67)) k s t d m ⟨(nme k).toArray⟩ (0) (mn k) ⟨(lt 3).toArray⟩ ⟨(ordr k).toArray⟩ ⟨(kindR k).toArray⟩ :=
      ⟨by rw [World.cell?_alloc_lt _ _ _ hz1]; exact c0, by rw [World.cell?_alloc_lt _ _ _ hz1]; exact c1, by rw [World.cell?_alloc_lt _ _ _ hz1]; exact c2, by rw [World.cell?_alloc_lt _ _ _ hz1]; exact c3, by rw [World.cell?_alloc_lt _ _ _ hz1]; exact c4, by simp, by simp, by simp, by simp, by simp, by simp, bF _⟩
    go_wp2_with fail
    generalize w1.alloc (.cells #[.string ⟨(nme k).toArray⟩, .int .i64 (0), .int .i64 (mn k), .string ⟨(lt 3).toArray⟩, .string ⟨(ordr k).toArray⟩, .string ⟨(kindR k).toArray⟩] 67) = W0 at q0 ⊢
    clear c0 c1 c2 c3 c4
    obtain ⟨c0, c1, c2, c3, c4, e0, e1, e2, e3, e4, e5, bW⟩ := q0
    go_quiet ((first | (go_at_call 32; exact Calls.quiet_of_same (isOf_lt 3 (by decide) _ _)) | (go_at_call 31; exact Calls.quiet_of_same (well_any _ _ _))))
    have q1 := (QF.mk c0 c1 c2 c3 c4 e0 e1 e2 e3 e4 e5 bW).drewN nq
    generalize W0.drewN nq = W1 at q1 ⊢
    clear c0 c1 c2 c3 c4 e0 e1 e2 e3 e4 e5 bW
    obtain ⟨c0, c1, c2, c3, c4, e0, e1, e2, e3, e4, e5, bW⟩ := q1
    go_wp2_with fail
    go_quiet ((first | (go_at_call 32; exact Calls.quiet_of_same (isOf_lt 3 (by decide) _ _)) | (go_at_call 31; exact Calls.quiet_of_same (well_any _ _ _))))
    have q2 := (QF.mk c0 c1 c2 c3 c4 e0 e1 e2 e3 e4 e5 bW).drewN nq
    generalize W1.drewN nq = W2 at q2 ⊢
    clear c0 c1 c2 c3 c4 e0 e1 e2 e3 e4 e5 bW
    obtain ⟨c0, c1, c2, c3, c4, e0, e1, e2, e3, e4, e5, bW⟩ := q2
    go_wp2_with fail
    go_quiet ((first | (go_at_call 32; exact Calls.quiet_of_same (isOf_lt 3 (by decide) _ _)) | (go_at_call 31; exact Calls.quiet_of_same (well_any _ _ _))))
    have q3 := (QF.mk c0 c1 c2 c3 c4 e0 e1 e2 e3 e4 e5 bW).drewN nq
    generalize W2.drewN nq = W3 at q3 ⊢
    clear c0 c1 c2 c3 c4 e0 e1 e2 e3 e4 e5 bW
    obtain ⟨c0, c1, c2, c3, c4, e0, e1, e2, e3, e4, e5, bW⟩ := q3
    go_wp2_with (go_at_call 32; refine (isOf_lt 3 (by decide) _ _).mono ?_; rintro e w' ⟨rfl, rfl⟩)
    go_ret2
    exact ⟨by rw [encO_bad HO.out]; rfl, bW⟩
set_option maxHeartbeats 4000000 in
theorem encodeOf_4 (k : Nat) (h1 : 1 ≤ k) (hk : k < 54) (hsh : sh k = 4) (hM : mj k = 0) (n0 : 0 ≤ mn k) (n1 : mn k < 64) (hfst : fst k = mn k) (s t d m : Int) (m0 : 0 ≤ m) (m1 : m < 4294967296) (w : World) :
    Calls Tryz.prog 9 #[ins k s t d m] w fun e w' => e = .returned (encO k s t d m) ∧ Below w.heap.size w w' := by
  have k0 : (1 : Int) ≤ k := by omega
  have k1 : (k : Int) < 54 := by omega
  have hfl : flds k = lt 4 := by show lt (sh k) = _; rw [hsh]
  have f83 : hasB (lt 4) 83 = true := by decide
  have f84 : hasB (lt 4) 84 = false := by decide
  have f68 : hasB (lt 4) 68 = true := by decide
  have f97 : hasB (lt 4) 97 = false := by decide
  have f105 : hasB (lt 4) 105 = false := by decide
  have f106 : hasB (lt 4) 106 = false := by decide
  by_cases ws : well s true = true
  · have bs := well_of ws
    by_cases wt : well t false = true
    · have bt := well_of wt
      by_cases wd : well d true = true
      · have bd := well_of wd
        simp at bs bt bd
        subst bt
        by_cases hm : m ≤ 0
        · have HO : Hid (okB (sh k) s 0 d m = true) := by show okB _ _ _ _ _ = _; rw [hsh]; simp [okB, hasS, hasT, hasD, hasA, hasI, hasJ, top, lt, ltL]; exact (by first | exact ⟨⟨⟨ws, wt⟩, wd⟩, by omega⟩ | (refine ⟨?_, by omega⟩; simp_all) | simp_all)
          have HE : Hid (enc k s 0 d m = mn k + s * 2097152 + 0 * 65536 + d * 2048 + m * 1) := by show enc k _ _ _ m = _; unfold enc by_; rw [hsh, hfst]; simp [hasA, lt, ltL]
          go_enter Tryz.func9, Tryz.ntmps9
          go_wp2_with (go_at_call 30; refine (rowOf_in k k0 k1 _).mono ?_; rintro e w1 ⟨rfl, hb1⟩)
          have bA : Below w.heap.size w w1 := ((Below.refl _ _).alloc (Nat.le_refl _) _).trans (hb1.mono (by simp))
          have bF : ∀ o, Below w.heap.size w (w1.alloc o) := fun o => bA.alloc bA.size _
          have c : ∀ q, w1.cell? ⟨w.heap.size, q, none⟩ = _ := fun q => hb1.cell (p := ⟨w.heap.size, q, none⟩) (by simp)
          have c0 := c 0
          have c1 := c 1
          have c2 := c 2
          have c3 := c 3
          have c4 := c 4
          clear c
          simp at c0 c1 c2 c3 c4
          have hz1 : w.heap.size < w1.heap.size := by have := hb1.size; simp at this; omega
          clear hb1
          have q0 : QF w.heap.size w1.heap.size w (w1.alloc (.cells #[.string ⟨(nme k).toArray⟩, .int .i64 (0), .int .i64 (mn k), .string ⟨(lt 4).toArray⟩, .string ⟨(ordr k).toArray⟩, .string ⟨(kindR k).toArray⟩] 67)) k s 0 d m ⟨(nme k).toArray⟩ (0) (mn k) ⟨(lt 4).toArray⟩ ⟨(ordr k).toArray⟩ ⟨(kindR k).toArray⟩ :=
            ⟨by rw [World.cell?_alloc_lt _ _ _ hz1]; exact c0, by rw [World.cell?_alloc_lt _ _ _ hz1]; exact c1, by rw [World.cell?_alloc_lt _ _ _ hz1]; exact c2, by rw [World.cell?_alloc_lt _ _ _ hz1]; exact c3, by rw [World.cell?_alloc_lt _ _ _ hz1]; exact c4, by simp, by simp, by simp, by simp, by simp, by simp, bF _⟩
          go_wp2_with fail
          generalize w1.alloc (.cells #[.string ⟨(nme k).toArray⟩, .int .i64 (0), .int .i64 (mn k), .string ⟨(lt 4).toArray⟩, .string ⟨(ordr k).toArray⟩, .string ⟨(kindR k).toArray⟩] 67) = W0 at q0 ⊢
          clear c0 c1 c2 c3 c4
          obtain ⟨c0, c1, c2, c3, c4, e0, e1, e2, e3, e4, e5, bW⟩ := q0
          go_quiet ((first | (go_at_call 32; exact Calls.quiet_of_same (isOf_lt 4 (by decide) _ _)) | (go_at_call 31; exact Calls.quiet_of_same (well_any _ _ _))))
          have q1 := (QF.mk c0 c1 c2 c3 c4 e0 e1 e2 e3 e4 e5 bW).drewN nq
          generalize W0.drewN nq = W1 at q1 ⊢
          clear c0 c1 c2 c3 c4 e0 e1 e2 e3 e4 e5 bW
          obtain ⟨c0, c1, c2, c3, c4, e0, e1, e2, e3, e4, e5, bW⟩ := q1
          go_wp2_with fail
          go_quiet ((first | (go_at_call 32; exact Calls.quiet_of_same (isOf_lt 4 (by decide) _ _)) | (go_at_call 31; exact Calls.quiet_of_same (well_any _ _ _))))
          have q2 := (QF.mk c0 c1 c2 c3 c4 e0 e1 e2 e3 e4 e5 bW).drewN nq
          generalize W1.drewN nq = W2 at q2 ⊢
          clear c0 c1 c2 c3 c4 e0 e1 e2 e3 e4 e5 bW
          obtain ⟨c0, c1, c2, c3, c4, e0, e1, e2, e3, e4, e5, bW⟩ := q2
          go_wp2_with fail
          go_quiet ((first | (go_at_call 32; exact Calls.quiet_of_same (isOf_lt 4 (by decide) _ _)) | (go_at_call 31; exact Calls.quiet_of_same (well_any _ _ _))))
          have q3 := (QF.mk c0 c1 c2 c3 c4 e0 e1 e2 e3 e4 e5 bW).drewN nq
          generalize W2.drewN nq = W3 at q3 ⊢
          clear c0 c1 c2 c3 c4 e0 e1 e2 e3 e4 e5 bW
          obtain ⟨c0, c1, c2, c3, c4, e0, e1, e2, e3, e4, e5, bW⟩ := q3
          go_wp2_with (go_at_call 32; refine (isOf_lt 4 (by decide) _ _).mono ?_; rintro e w' ⟨rfl, rfl⟩)
          go_ret2
          exact ⟨by rw [encO_ok HO.out, HE.out]; exact ret_oo (by omega) rfl, bW⟩
        · have hm' : 0 < m := by omega
          have HO : Hid (okB (sh k) s 0 d m = false) := by show okB _ _ _ _ _ = _; rw [hsh]; simp [okB, hasS, hasT, hasD, hasA, hasI, hasJ, top, lt, ltL]; intros; omega
          go_enter Tryz.func9, Tryz.ntmps9
          go_wp2_with (go_at_call 30; refine (rowOf_in k k0 k1 _).mono ?_; rintro e w1 ⟨rfl, hb1⟩)
          have bA : Below w.heap.size w w1 := ((Below.refl _ _).alloc (Nat.le_refl _) _).trans (hb1.mono (by simp))
          have bF : ∀ o, Below w.heap.size w (w1.alloc o) := fun o => bA.alloc bA.size _
          have c : ∀ q, w1.cell? ⟨w.heap.size, q, none⟩ = _ := fun q => hb1.cell (p := ⟨w.heap.size, q, none⟩) (by simp)
          have c0 := c 0
          have c1 := c 1
          have c2 := c 2
          have c3 := c 3
          have c4 := c 4
          clear c
          simp at c0 c1 c2 c3 c4
          have hz1 : w.heap.size < w1.heap.size := by have := hb1.size; simp at this; omega
          clear hb1
          have q0 : QF w.heap.size w1.heap.size w (w1.alloc (.cells #[.string ⟨(nme k).toArray⟩, .int .i64 (0), .int .i64 (mn k), .string ⟨(lt 4).toArray⟩, .string ⟨(ordr k).toArray⟩, .string ⟨(kindR k).toArray⟩] 67)) k s 0 d m ⟨(nme k).toArray⟩ (0) (mn k) ⟨(lt 4).toArray⟩ ⟨(ordr k).toArray⟩ ⟨(kindR k).toArray⟩ :=
            ⟨by rw [World.cell?_alloc_lt _ _ _ hz1]; exact c0, by rw [World.cell?_alloc_lt _ _ _ hz1]; exact c1, by rw [World.cell?_alloc_lt _ _ _ hz1]; exact c2, by rw [World.cell?_alloc_lt _ _ _ hz1]; exact c3, by rw [World.cell?_alloc_lt _ _ _ hz1]; exact c4, by simp, by simp, by simp, by simp, by simp, by simp, bF _⟩
          go_wp2_with fail
          generalize w1.alloc (.cells #[.string ⟨(nme k).toArray⟩, .int .i64 (0), .int .i64 (mn k), .string ⟨(lt 4).toArray⟩, .string ⟨(ordr k).toArray⟩, .string ⟨(kindR k).toArray⟩] 67) = W0 at q0 ⊢
          clear c0 c1 c2 c3 c4
          obtain ⟨c0, c1, c2, c3, c4, e0, e1, e2, e3, e4, e5, bW⟩ := q0
          go_quiet ((first | (go_at_call 32; exact Calls.quiet_of_same (isOf_lt 4 (by decide) _ _)) | (go_at_call 31; exact Calls.quiet_of_same (well_any _ _ _))))
          have q1 := (QF.mk c0 c1 c2 c3 c4 e0 e1 e2 e3 e4 e5 bW).drewN nq
          generalize W0.drewN nq = W1 at q1 ⊢
          clear c0 c1 c2 c3 c4 e0 e1 e2 e3 e4 e5 bW
          obtain ⟨c0, c1, c2, c3, c4, e0, e1, e2, e3, e4, e5, bW⟩ := q1
          go_wp2_with fail
          go_quiet ((first | (go_at_call 32; exact Calls.quiet_of_same (isOf_lt 4 (by decide) _ _)) | (go_at_call 31; exact Calls.quiet_of_same (well_any _ _ _))))
          have q2 := (QF.mk c0 c1 c2 c3 c4 e0 e1 e2 e3 e4 e5 bW).drewN nq
          generalize W1.drewN nq = W2 at q2 ⊢
          clear c0 c1 c2 c3 c4 e0 e1 e2 e3 e4 e5 bW
          obtain ⟨c0, c1, c2, c3, c4, e0, e1, e2, e3, e4, e5, bW⟩ := q2
          go_wp2_with fail
          go_quiet ((first | (go_at_call 32; exact Calls.quiet_of_same (isOf_lt 4 (by decide) _ _)) | (go_at_call 31; exact Calls.quiet_of_same (well_any _ _ _))))
          have q3 := (QF.mk c0 c1 c2 c3 c4 e0 e1 e2 e3 e4 e5 bW).drewN nq
          generalize W2.drewN nq = W3 at q3 ⊢
          clear c0 c1 c2 c3 c4 e0 e1 e2 e3 e4 e5 bW
          obtain ⟨c0, c1, c2, c3, c4, e0, e1, e2, e3, e4, e5, bW⟩ := q3
          go_wp2_with (go_at_call 32; refine (isOf_lt 4 (by decide) _ _).mono ?_; rintro e w' ⟨rfl, rfl⟩)
          go_ret2
          exact ⟨by rw [encO_bad HO.out]; rfl, bW⟩
      · have wd' : well d true = false := by simpa using wd
        have HO : Hid (okB (sh k) s t d m = false) := by show okB _ _ _ _ _ = _; rw [hsh]; simp [okB, hasS, hasT, hasD, lt, ltL, wd']
        go_enter Tryz.func9, Tryz.ntmps9
        go_wp2_with (go_at_call 30; refine (rowOf_in k k0 k1 _).mono ?_; rintro e w1 ⟨rfl, hb1⟩)
        have bA : Below w.heap.size w w1 := ((Below.refl _ _).alloc (Nat.le_refl _) _).trans (hb1.mono (by simp))
        have bF : ∀ o, Below w.heap.size w (w1.alloc o) := fun o => bA.alloc bA.size _
        have c : ∀ q, w1.cell? ⟨w.heap.size, q, none⟩ = _ := fun q => hb1.cell (p := ⟨w.heap.size, q, none⟩) (by simp)
        have c0 := c 0
        have c1 := c 1
        have c2 := c 2
        have c3 := c 3
        have c4 := c 4
        clear c
        simp at c0 c1 c2 c3 c4
        have hz1 : w.heap.size < w1.heap.size := by have := hb1.size; simp at this; omega
        clear hb1
        have q0 : QF w.heap.size w1.heap.size w (w1.alloc (.cells #[.string ⟨(nme k).toArray⟩, .int .i64 (0), .int .i64 (mn k), .string ⟨(lt 4).toArray⟩, .string ⟨(ordr k).toArray⟩, .string ⟨(kindR k).toArray⟩] 67)) k s t d m ⟨(nme k).toArray⟩ (0) (mn k) ⟨(lt 4).toArray⟩ ⟨(ordr k).toArray⟩ ⟨(kindR k).toArray⟩ :=
          ⟨by rw [World.cell?_alloc_lt _ _ _ hz1]; exact c0, by rw [World.cell?_alloc_lt _ _ _ hz1]; exact c1, by rw [World.cell?_alloc_lt _ _ _ hz1]; exact c2, by rw [World.cell?_alloc_lt _ _ _ hz1]; exact c3, by rw [World.cell?_alloc_lt _ _ _ hz1]; exact c4, by simp, by simp, by simp, by simp, by simp, by simp, bF _⟩
        go_wp2_with fail
        generalize w1.alloc (.cells #[.string ⟨(nme k).toArray⟩, .int .i64 (0), .int .i64 (mn k), .string ⟨(lt 4).toArray⟩, .string ⟨(ordr k).toArray⟩, .string ⟨(kindR k).toArray⟩] 67) = W0 at q0 ⊢
        clear c0 c1 c2 c3 c4
        obtain ⟨c0, c1, c2, c3, c4, e0, e1, e2, e3, e4, e5, bW⟩ := q0
        go_quiet ((first | (go_at_call 32; exact Calls.quiet_of_same (isOf_lt 4 (by decide) _ _)) | (go_at_call 31; exact Calls.quiet_of_same (well_any _ _ _))))
        have q1 := (QF.mk c0 c1 c2 c3 c4 e0 e1 e2 e3 e4 e5 bW).drewN nq
        generalize W0.drewN nq = W1 at q1 ⊢
        clear c0 c1 c2 c3 c4 e0 e1 e2 e3 e4 e5 bW
        obtain ⟨c0, c1, c2, c3, c4, e0, e1, e2, e3, e4, e5, bW⟩ := q1
        go_wp2_with fail
        go_quiet ((first | (go_at_call 32; exact Calls.quiet_of_same (isOf_lt 4 (by decide) _ _)) | (go_at_call 31; exact Calls.quiet_of_same (well_any _ _ _))))
        have q2 := (QF.mk c0 c1 c2 c3 c4 e0 e1 e2 e3 e4 e5 bW).drewN nq
        generalize W1.drewN nq = W2 at q2 ⊢
        clear c0 c1 c2 c3 c4 e0 e1 e2 e3 e4 e5 bW
        obtain ⟨c0, c1, c2, c3, c4, e0, e1, e2, e3, e4, e5, bW⟩ := q2
        go_wp2_with fail
        go_quiet ((first | (go_at_call 32; exact Calls.quiet_of_same (isOf_lt 4 (by decide) _ _)) | (go_at_call 31; exact Calls.quiet_of_same (well_any _ _ _))))
        have q3 := (QF.mk c0 c1 c2 c3 c4 e0 e1 e2 e3 e4 e5 bW).drewN nq
        generalize W2.drewN nq = W3 at q3 ⊢
        clear c0 c1 c2 c3 c4 e0 e1 e2 e3 e4 e5 bW
        obtain ⟨c0, c1, c2, c3, c4, e0, e1, e2, e3, e4, e5, bW⟩ := q3
        go_wp2_with (go_at_call 32; refine (isOf_lt 4 (by decide) _ _).mono ?_; rintro e w' ⟨rfl, rfl⟩)
        go_ret2
        exact ⟨by rw [encO_bad HO.out]; rfl, bW⟩
    · have wt' : well t false = false := by simpa using wt
      have HO : Hid (okB (sh k) s t d m = false) := by show okB _ _ _ _ _ = _; rw [hsh]; simp [okB, hasS, hasT, hasD, lt, ltL, wt']
      go_enter Tryz.func9, Tryz.ntmps9
      go_wp2_with (go_at_call 30; refine (rowOf_in k k0 k1 _).mono ?_; rintro e w1 ⟨rfl, hb1⟩)
      have bA : Below w.heap.size w w1 := ((Below.refl _ _).alloc (Nat.le_refl _) _).trans (hb1.mono (by simp))
      have bF : ∀ o, Below w.heap.size w (w1.alloc o) := fun o => bA.alloc bA.size _
      have c : ∀ q, w1.cell? ⟨w.heap.size, q, none⟩ = _ := fun q => hb1.cell (p := ⟨w.heap.size, q, none⟩) (by simp)
      have c0 := c 0
      have c1 := c 1
      have c2 := c 2
      have c3 := c 3
      have c4 := c 4
      clear c
      simp at c0 c1 c2 c3 c4
      have hz1 : w.heap.size < w1.heap.size := by have := hb1.size; simp at this; omega
      clear hb1
      have q0 : QF w.heap.size w1.heap.size w (w1.alloc (.cells #[.string ⟨(nme k).toArray⟩, .int .i64 (0), .int .i64 (mn k), .string ⟨(lt 4).toArray⟩, .string ⟨(ordr k).toArray⟩, .string ⟨(kindR k).toArray⟩] 67)) k s t d m ⟨(nme k).toArray⟩ (0) (mn k) ⟨(lt 4).toArray⟩ ⟨(ordr k).toArray⟩ ⟨(kindR k).toArray⟩ :=
        ⟨by rw [World.cell?_alloc_lt _ _ _ hz1]; exact c0, by rw [World.cell?_alloc_lt _ _ _ hz1]; exact c1, by rw [World.cell?_alloc_lt _ _ _ hz1]; exact c2, by rw [World.cell?_alloc_lt _ _ _ hz1]; exact c3, by rw [World.cell?_alloc_lt _ _ _ hz1]; exact c4, by simp, by simp, by simp, by simp, by simp, by simp, bF _⟩
      go_wp2_with fail
      generalize w1.alloc (.cells #[.string ⟨(nme k).toArray⟩, .int .i64 (0), .int .i64 (mn k), .string ⟨(lt 4).toArray⟩, .string ⟨(ordr k).toArray⟩, .string ⟨(kindR k).toArray⟩] 67) = W0 at q0 ⊢
      clear c0 c1 c2 c3 c4
      obtain ⟨c0, c1, c2, c3, c4, e0, e1, e2, e3, e4, e5, bW⟩ := q0
      go_quiet ((first | (go_at_call 32; exact Calls.quiet_of_same (isOf_lt 4 (by decide) _ _)) | (go_at_call 31; exact Calls.quiet_of_same (well_any _ _ _))))
      have q1 := (QF.mk c0 c1 c2 c3 c4 e0 e1 e2 e3 e4 e5 bW).drewN nq
      generalize W0.drewN nq = W1 at q1 ⊢
      clear c0 c1 c2 c3 c4 e0 e1 e2 e3 e4 e5 bW
      obtain ⟨c0, c1, c2, c3, c4, e0, e1, e2, e3, e4, e5, bW⟩ := q1
      go_wp2_with fail
      go_quiet ((first | (go_at_call 32; exact Calls.quiet_of_same (isOf_lt 4 (by decide) _ _)) | (go_at_call 31; exact Calls.quiet_of_same (well_any _ _ _))))
      have q2 := (QF.mk c0 c1 c2 c3 c4 e0 e1 e2 e3 e4 e5 bW).drewN nq
      generalize W1.drewN nq = W2 at q2 ⊢
      clear c0 c1 c2 c3 c4 e0 e1 e2 e3 e4 e5 bW
      obtain ⟨c0, c1, c2, c3, c4, e0, e1, e2, e3, e4, e5, bW⟩ := q2
      go_wp2_with fail
      go_quiet ((first | (go_at_call 32; exact Calls.quiet_of_same (isOf_lt 4 (by decide) _ _)) | (go_at_call 31; exact Calls.quiet_of_same (well_any _ _ _))))
      have q3 := (QF.mk c0 c1 c2 c3 c4 e0 e1 e2 e3 e4 e5 bW).drewN nq
      generalize W2.drewN nq = W3 at q3 ⊢
      clear c0 c1 c2 c3 c4 e0 e1 e2 e3 e4 e5 bW
      obtain ⟨c0, c1, c2, c3, c4, e0, e1, e2, e3, e4, e5, bW⟩ := q3
      go_wp2_with (go_at_call 32; refine (isOf_lt 4 (by decide) _ _).mono ?_; rintro e w' ⟨rfl, rfl⟩)
      go_ret2
      exact ⟨by rw [encO_bad HO.out]; rfl, bW⟩
  · have ws' : well s true = false := by simpa using ws
    have HO : Hid (okB (sh k) s t d m = false) := by show okB _ _ _ _ _ = _; rw [hsh]; simp [okB, hasS, hasT, hasD, lt, ltL, ws']
    go_enter Tryz.func9, Tryz.ntmps9
    go_wp2_with (go_at_call 30; refine (rowOf_in k k0 k1 _).mono ?_; rintro e w1 ⟨rfl, hb1⟩)
    have bA : Below w.heap.size w w1 := ((Below.refl _ _).alloc (Nat.le_refl _) _).trans (hb1.mono (by simp))
    have bF : ∀ o, Below w.heap.size w (w1.alloc o) := fun o => bA.alloc bA.size _
    have c : ∀ q, w1.cell? ⟨w.heap.size, q, none⟩ = _ := fun q => hb1.cell (p := ⟨w.heap.size, q, none⟩) (by simp)
    have c0 := c 0
    have c1 := c 1
    have c2 := c 2
    have c3 := c 3
    have c4 := c 4
    clear c
    simp at c0 c1 c2 c3 c4
    have hz1 : w.heap.size < w1.heap.size := by have := hb1.size; simp at this; omega
    clear hb1
    have q0 : QF w.heap.size w1.heap.size w (w1.alloc (.cells #[.string ⟨(nme k).toArray⟩, .int .i64 (0), .int .i64 (mn k), .string ⟨(lt 4).toArray⟩, .string ⟨(ordr k).toArray⟩, .string ⟨(kindR k).toArray⟩] 67)) k s t d m ⟨(nme k).toArray⟩ (0) (mn k) ⟨(lt 4).toArray⟩ ⟨(ordr k).toArray⟩ ⟨(kindR k).toArray⟩ :=
      ⟨by rw [World.cell?_alloc_lt _ _ _ hz1]; exact c0, by rw [World.cell?_alloc_lt _ _ _ hz1]; exact c1, by rw [World.cell?_alloc_lt _ _ _ hz1]; exact c2, by rw [World.cell?_alloc_lt _ _ _ hz1]; exact c3, by rw [World.cell?_alloc_lt _ _ _ hz1]; exact c4, by simp, by simp, by simp, by simp, by simp, by simp, bF _⟩
    go_wp2_with fail
    generalize w1.alloc (.cells #[.string ⟨(nme k).toArray⟩, .int .i64 (0), .int .i64 (mn k), .string ⟨(lt 4).toArray⟩, .string ⟨(ordr k).toArray⟩, .string ⟨(kindR k).toArray⟩] 67) = W0 at q0 ⊢
    clear c0 c1 c2 c3 c4
    obtain ⟨c0, c1, c2, c3, c4, e0, e1, e2, e3, e4, e5, bW⟩ := q0
    go_quiet ((first | (go_at_call 32; exact Calls.quiet_of_same (isOf_lt 4 (by decide) _ _)) | (go_at_call 31; exact Calls.quiet_of_same (well_any _ _ _))))
    have q1 := (QF.mk c0 c1 c2 c3 c4 e0 e1 e2 e3 e4 e5 bW).drewN nq
    generalize W0.drewN nq = W1 at q1 ⊢
    clear c0 c1 c2 c3 c4 e0 e1 e2 e3 e4 e5 bW
    obtain ⟨c0, c1, c2, c3, c4, e0, e1, e2, e3, e4, e5, bW⟩ := q1
    go_wp2_with fail
    go_quiet ((first | (go_at_call 32; exact Calls.quiet_of_same (isOf_lt 4 (by decide) _ _)) | (go_at_call 31; exact Calls.quiet_of_same (well_any _ _ _))))
    have q2 := (QF.mk c0 c1 c2 c3 c4 e0 e1 e2 e3 e4 e5 bW).drewN nq
    generalize W1.drewN nq = W2 at q2 ⊢
    clear c0 c1 c2 c3 c4 e0 e1 e2 e3 e4 e5 bW
    obtain ⟨c0, c1, c2, c3, c4, e0, e1, e2, e3, e4, e5, bW⟩ := q2
    go_wp2_with fail
    go_quiet ((first | (go_at_call 32; exact Calls.quiet_of_same (isOf_lt 4 (by decide) _ _)) | (go_at_call 31; exact Calls.quiet_of_same (well_any _ _ _))))
    have q3 := (QF.mk c0 c1 c2 c3 c4 e0 e1 e2 e3 e4 e5 bW).drewN nq
    generalize W2.drewN nq = W3 at q3 ⊢
    clear c0 c1 c2 c3 c4 e0 e1 e2 e3 e4 e5 bW
    obtain ⟨c0, c1, c2, c3, c4, e0, e1, e2, e3, e4, e5, bW⟩ := q3
    go_wp2_with (go_at_call 32; refine (isOf_lt 4 (by decide) _ _).mono ?_; rintro e w' ⟨rfl, rfl⟩)
    go_ret2
    exact ⟨by rw [encO_bad HO.out]; rfl, bW⟩
set_option maxHeartbeats 4000000 in
theorem encodeOf_5 (k : Nat) (h1 : 1 ≤ k) (hk : k < 54) (hsh : sh k = 5) (hM : mj k = 0) (n0 : 0 ≤ mn k) (n1 : mn k < 64) (hfst : fst k = mn k) (s t d m : Int) (m0 : 0 ≤ m) (m1 : m < 4294967296) (w : World) :
    Calls Tryz.prog 9 #[ins k s t d m] w fun e w' => e = .returned (encO k s t d m) ∧ Below w.heap.size w w' := by
  have k0 : (1 : Int) ≤ k := by omega
  have k1 : (k : Int) < 54 := by omega
  have hfl : flds k = lt 5 := by show lt (sh k) = _; rw [hsh]
  have f83 : hasB (lt 5) 83 = false := by decide
  have f84 : hasB (lt 5) 84 = false := by decide
  have f68 : hasB (lt 5) 68 = true := by decide
  have f97 : hasB (lt 5) 97 = false := by decide
  have f105 : hasB (lt 5) 105 = false := by decide
  have f106 : hasB (lt 5) 106 = false := by decide
  by_cases ws : well s false = true
  · have bs := well_of ws
    by_cases wt : well t false = true
    · have bt := well_of wt
      by_cases wd : well d true = true
      · have bd := well_of wd
        simp at bs bt bd
        subst bs
        subst bt
        by_cases hm : m ≤ 0
        · have HO : Hid (okB (sh k) 0 0 d m = true) := by show okB _ _ _ _ _ = _; rw [hsh]; simp [okB, hasS, hasT, hasD, hasA, hasI, hasJ, top, lt, ltL]; exact (by first | exact ⟨⟨⟨ws, wt⟩, wd⟩, by omega⟩ | (refine ⟨?_, by omega⟩; simp_all) | simp_all)
          have HE : Hid (enc k 0 0 d m = mn k + 0 * 2097152 + 0 * 65536 + d * 2048 + m * 1) := by show enc k _ _ _ m = _; unfold enc by_; rw [hsh, hfst]; simp [hasA, lt, ltL]
          go_enter Tryz.func9, Tryz.ntmps9
          go_wp2_with (go_at_call 30; refine (rowOf_in k k0 k1 _).mono ?_; rintro e w1 ⟨rfl, hb1⟩)
          have bA : Below w.heap.size w w1 := ((Below.refl _ _).alloc (Nat.le_refl _) _).trans (hb1.mono (by simp))
          have bF : ∀ o, Below w.heap.size w (w1.alloc o) := fun o => bA.alloc bA.size _
          have c : ∀ q, w1.cell? ⟨w.heap.size, q, none⟩ = _ := fun q => hb1.cell (p := ⟨w.heap.size, q, none⟩) (by simp)
          have c0 := c 0
          have c1 := c 1
          have c2 := c 2
          have c3 := c 3
          have c4 := c 4
          clear c
          simp at c0 c1 c2 c3 c4
          have hz1 : w.heap.size < w1.heap.size := by have := hb1.size; simp at this; omega
          clear hb1
          have q0 : QF w.heap.size w1.heap.size w (w1.alloc (.cells #[.string ⟨(nme k).toArray⟩, .int .i64 (0), .int .i64 (mn k), .string ⟨(lt 5).toArray⟩, .string ⟨(ordr k).toArray⟩, .string ⟨(kindR k).toArray⟩] 67)) k 0 0 d m ⟨(nme k).toArray⟩ (0) (mn k) ⟨(lt 5).toArray⟩ ⟨(ordr k).toArray⟩ ⟨(kindR k).toArray⟩ :=
            ⟨by rw [World.cell?_alloc_lt _ _ _ hz1]; exact c0, by rw [World.cell?_alloc_lt _ _ _ hz1]; exact c1, by rw [World.cell?_alloc_lt _ _ _ hz1]; exact c2, by rw [World.cell?_alloc_lt _ _ _ hz1]; exact c3, by rw [World.cell?_alloc_lt _ _ _ hz1]; exact c4, by simp, by simp, by simp, by simp, by simp, by simp, bF _⟩
          go_wp2_with fail
          generalize w1.alloc (.cells #[.string ⟨(nme k).toArray⟩, .int .i64 (0), .int .i64 (mn k), .string ⟨(lt 5).toArray⟩, .string ⟨(ordr k).toArray⟩, .string ⟨(kindR k).toArray⟩] 67) = W0 at q0 ⊢
          clear c0 c1 c2 c3 c4
          obtain ⟨c0, c1, c2, c3, c4, e0, e1, e2, e3, e4, e5, bW⟩ := q0
          go_quiet ((first | (go_at_call 32; exact Calls.quiet_of_same (isOf_lt 5 (by decide) _ _)) | (go_at_call 31; exact Calls.quiet_of_same (well_any _ _ _))))
          have q1 := (QF.mk c0 c1 c2 c3 c4 e0 e1 e2 e3 e4 e5 bW).drewN nq
          generalize W0.drewN nq = W1 at q1 ⊢
          clear c0 c1 c2 c3 c4 e0 e1 e2 e3 e4 e5 bW
          obtain ⟨c0, c1, c2, c3, c4, e0, e1, e2, e3, e4, e5, bW⟩ := q1
          go_wp2_with fail
          go_quiet ((first | (go_at_call 32; exact Calls.quiet_of_same (isOf_lt 5 (by decide) _ _)) | (go_at_call 31; exact Calls.quiet_of_same (well_any _ _ _))))
          have q2 := (QF.mk c0 c1 c2 c3 c4 e0 e1 e2 e3 e4 e5 bW).drewN nq
          generalize W1.drewN nq = W2 at q2 ⊢
          clear c0 c1 c2 c3 c4 e0 e1 e2 e3 e4 e5 bW
          obtain ⟨c0, c1, c2, c3, c4, e0, e1, e2, e3, e4, e5, bW⟩ := q2
          go_wp2_with fail
          go_quiet ((first | (go_at_call 32; exact Calls.quiet_of_same (isOf_lt 5 (by decide) _ _)) | (go_at_call 31; exact Calls.quiet_of_same (well_any _ _ _))))
          have q3 := (QF.mk c0 c1 c2 c3 c4 e0 e1 e2 e3 e4 e5 bW).drewN nq
          generalize W2.drewN nq = W3 at q3 ⊢
          clear c0 c1 c2 c3 c4 e0 e1 e2 e3 e4 e5 bW
          obtain ⟨c0, c1, c2, c3, c4, e0, e1, e2, e3, e4, e5, bW⟩ := q3
          go_wp2_with (go_at_call 32; refine (isOf_lt 5 (by decide) _ _).mono ?_; rintro e w' ⟨rfl, rfl⟩)
          go_ret2
          exact ⟨by rw [encO_ok HO.out, HE.out]; exact ret_oo (by omega) rfl, bW⟩
        · have hm' : 0 < m := by omega
          have HO : Hid (okB (sh k) 0 0 d m = false) := by show okB _ _ _ _ _ = _; rw [hsh]; simp [okB, hasS, hasT, hasD, hasA, hasI, hasJ, top, lt, ltL]; intros; omega
          go_enter Tryz.func9, Tryz.ntmps9
          go_wp2_with (go_at_call 30; refine (rowOf_in k k0 k1 _).mono ?_; rintro e w1 ⟨rfl, hb1⟩)
          have bA : Below w.heap.size w w1 := ((Below.refl _ _).alloc (Nat.le_refl _) _).trans (hb1.mono (by simp))
          have bF : ∀ o, Below w.heap.size w (w1.alloc o) := fun o => bA.alloc bA.size _
          have c : ∀ q, w1.cell? ⟨w.heap.size, q, none⟩ = _ := fun q => hb1.cell (p := ⟨w.heap.size, q, none⟩) (by simp)
          have c0 := c 0
          have c1 := c 1
          have c2 := c 2
          have c3 := c 3
          have c4 := c 4
          clear c
          simp at c0 c1 c2 c3 c4
          have hz1 : w.heap.size < w1.heap.size := by have := hb1.size; simp at this; omega
          clear hb1
          have q0 : QF w.heap.size w1.heap.size w (w1.alloc (.cells #[.string ⟨(nme k).toArray⟩, .int .i64 (0), .int .i64 (mn k), .string ⟨(lt 5).toArray⟩, .string ⟨(ordr k).toArray⟩, .string ⟨(kindR k).toArray⟩] 67)) k 0 0 d m ⟨(nme k).toArray⟩ (0) (mn k) ⟨(lt 5).toArray⟩ ⟨(ordr k).toArray⟩ ⟨(kindR k).toArray⟩ :=
            ⟨by rw [World.cell?_alloc_lt _ _ _ hz1]; exact c0, by rw [World.cell?_alloc_lt _ _ _ hz1]; exact c1, by rw [World.cell?_alloc_lt _ _ _ hz1]; exact c2, by rw [World.cell?_alloc_lt _ _ _ hz1]; exact c3, by rw [World.cell?_alloc_lt _ _ _ hz1]; exact c4, by simp, by simp, by simp, by simp, by simp, by simp, bF _⟩
          go_wp2_with fail
          generalize w1.alloc (.cells #[.string ⟨(nme k).toArray⟩, .int .i64 (0), .int .i64 (mn k), .string ⟨(lt 5).toArray⟩, .string ⟨(ordr k).toArray⟩, .string ⟨(kindR k).toArray⟩] 67) = W0 at q0 ⊢
          clear c0 c1 c2 c3 c4
          obtain ⟨c0, c1, c2, c3, c4, e0, e1, e2, e3, e4, e5, bW⟩ := q0
          go_quiet ((first | (go_at_call 32; exact Calls.quiet_of_same (isOf_lt 5 (by decide) _ _)) | (go_at_call 31; exact Calls.quiet_of_same (well_any _ _ _))))
          have q1 := (QF.mk c0 c1 c2 c3 c4 e0 e1 e2 e3 e4 e5 bW).drewN nq
          generalize W0.drewN nq = W1 at q1 ⊢
          clear c0 c1 c2 c3 c4 e0 e1 e2 e3 e4 e5 bW
          obtain ⟨c0, c1, c2, c3, c4, e0, e1, e2, e3, e4, e5, bW⟩ := q1
          go_wp2_with fail
          go_quiet ((first | (go_at_call 32; exact Calls.quiet_of_same (isOf_lt 5 (by decide) _ _)) | (go_at_call 31; exact Calls.quiet_of_same (well_any _ _ _))))
          have q2 := (QF.mk c0 c1 c2 c3 c4 e0 e1 e2 e3 e4 e5 bW).drewN nq
          generalize W1.drewN nq = W2 at q2 ⊢
          clear c0 c1 c2 c3 c4 e0 e1 e2 e3 e4 e5 bW
          obtain ⟨c0, c1, c2, c3, c4, e0, e1, e2, e3, e4, e5, bW⟩ := q2
          go_wp2_with fail
          go_quiet ((first | (go_at_call 32; exact Calls.quiet_of_same (isOf_lt 5 (by decide) _ _)) | (go_at_call 31; exact Calls.quiet_of_same (well_any _ _ _))))
          have q3 := (QF.mk c0 c1 c2 c3 c4 e0 e1 e2 e3 e4 e5 bW).drewN nq
          generalize W2.drewN nq = W3 at q3 ⊢
          clear c0 c1 c2 c3 c4 e0 e1 e2 e3 e4 e5 bW
          obtain ⟨c0, c1, c2, c3, c4, e0, e1, e2, e3, e4, e5, bW⟩ := q3
          go_wp2_with (go_at_call 32; refine (isOf_lt 5 (by decide) _ _).mono ?_; rintro e w' ⟨rfl, rfl⟩)
          go_ret2
          exact ⟨by rw [encO_bad HO.out]; rfl, bW⟩
      · have wd' : well d true = false := by simpa using wd
        have HO : Hid (okB (sh k) s t d m = false) := by show okB _ _ _ _ _ = _; rw [hsh]; simp [okB, hasS, hasT, hasD, lt, ltL, wd']
        go_enter Tryz.func9, Tryz.ntmps9
        go_wp2_with (go_at_call 30; refine (rowOf_in k k0 k1 _).mono ?_; rintro e w1 ⟨rfl, hb1⟩)
        have bA : Below w.heap.size w w1 := ((Below.refl _ _).alloc (Nat.le_refl _) _).trans (hb1.mono (by simp))
        have bF : ∀ o, Below w.heap.size w (w1.alloc o) := fun o => bA.alloc bA.size _
        have c : ∀ q, w1.cell? ⟨w.heap.size, q, none⟩ = _ := fun q => hb1.cell (p := ⟨w.heap.size, q, none⟩) (by simp)
        have c0 := c 0
        have c1 := c 1
        have c2 := c 2
        have c3 := c 3
        have c4 := c 4
        clear c
        simp at c0 c1 c2 c3 c4
        have hz1 : w.heap.size < w1.heap.size := by have := hb1.size; simp at this; omega
        clear hb1
        have q0 : QF w.heap.size w1.heap.size w (w1.alloc (.cells #[.string ⟨(nme k).toArray⟩, .int .i64 (0), .int .i64 (mn k), .string ⟨(lt 5).toArray⟩, .string ⟨(ordr k).toArray⟩, .string ⟨(kindR k).toArray⟩] 67)) k s t d m ⟨(nme k).toArray⟩ (0) (mn k) ⟨(lt 5).toArray⟩ ⟨(ordr k).toArray⟩ ⟨(kindR k).toArray⟩ :=
          ⟨by rw [World.cell?_alloc_lt _ _ _ hz1]; exact c0, by rw [World.cell?_alloc_lt _ _ _ hz1]; exact c1, by rw [World.cell?_alloc_lt _ _ _ hz1]; exact c2, by rw [World.cell?_alloc_lt _ _ _ hz1]; exact c3, by rw [World.cell?_alloc_lt _ _ _ hz1]; exact c4, by simp, by simp, by simp, by simp, by simp, by simp, bF _⟩
        go_wp2_with fail
        generalize w1.alloc (.cells #[.string ⟨(nme k).toArray⟩, .int .i64 (0), .int .i64 (mn k), .string ⟨(lt 5).toArray⟩, .string ⟨(ordr k).toArray⟩, .string ⟨(kindR k).toArray⟩] 67) = W0 at q0 ⊢
        clear c0 c1 c2 c3 c4
        obtain ⟨c0, c1, c2, c3, c4, e0, e1, e2, e3, e4, e5, bW⟩ := q0
        go_quiet ((first | (go_at_call 32; exact Calls.quiet_of_same (isOf_lt 5 (by decide) _ _)) | (go_at_call 31; exact Calls.quiet_of_same (well_any _ _ _))))
        have q1 := (QF.mk c0 c1 c2 c3 c4 e0 e1 e2 e3 e4 e5 bW).drewN nq
        generalize W0.drewN nq = W1 at q1 ⊢
        clear c0 c1 c2 c3 c4 e0 e1 e2 e3 e4 e5 bW
        obtain ⟨c0, c1, c2, c3, c4, e0, e1, e2, e3, e4, e5, bW⟩ := q1
        go_wp2_with fail
        go_quiet ((first | (go_at_call 32; exact Calls.quiet_of_same (isOf_lt 5 (by decide) _ _)) | (go_at_call 31; exact Calls.quiet_of_same (well_any _ _ _))))
        have q2 := (QF.mk c0 c1 c2 c3 c4 e0 e1 e2 e3 e4 e5 bW).drewN nq
        generalize W1.drewN nq = W2 at q2 ⊢
        clear c0 c1 c2 c3 c4 e0 e1 e2 e3 e4 e5 bW
        obtain ⟨c0, c1, c2, c3, c4, e0, e1, e2, e3, e4, e5, bW⟩ := q2
        go_wp2_with fail
        go_quiet ((first | (go_at_call 32; exact Calls.quiet_of_same (isOf_lt 5 (by decide) _ _)) | (go_at_call 31; exact Calls.quiet_of_same (well_any _ _ _))))
        have q3 := (QF.mk c0 c1 c2 c3 c4 e0 e1 e2 e3 e4 e5 bW).drewN nq
        generalize W2.drewN nq = W3 at q3 ⊢
        clear c0 c1 c2 c3 c4 e0 e1 e2 e3 e4 e5 bW
        obtain ⟨c0, c1, c2, c3, c4, e0, e1, e2, e3, e4, e5, bW⟩ := q3
        go_wp2_with (go_at_call 32; refine (isOf_lt 5 (by decide) _ _).mono ?_; rintro e w' ⟨rfl, rfl⟩)
        go_ret2
        exact ⟨by rw [encO_bad HO.out]; rfl, bW⟩
    · have wt' : well t false = false := by simpa using wt
      have HO : Hid (okB (sh k) s t d m = false) := by show okB _ _ _ _ _ = _; rw [hsh]; simp [okB, hasS, hasT, hasD, lt, ltL, wt']
      go_enter Tryz.func9, Tryz.ntmps9
      go_wp2_with (go_at_call 30; refine (rowOf_in k k0 k1 _).mono ?_; rintro e w1 ⟨rfl, hb1⟩)
      have bA : Below w.heap.size w w1 := ((Below.refl _ _).alloc (Nat.le_refl _) _).trans (hb1.mono (by simp))
      have bF : ∀ o, Below w.heap.size w (w1.alloc o) := fun o => bA.alloc bA.size _
      have c : ∀ q, w1.cell? ⟨w.heap.size, q, none⟩ = _ := fun q => hb1.cell (p := ⟨w.heap.size, q, none⟩) (by simp)
      have c0 := c 0
      have c1 := c 1
      have c2 := c 2
      have c3 := c 3
      have c4 := c 4
      clear c
      simp at c0 c1 c2 c3 c4
      have hz1 : w.heap.size < w1.heap.size := by have := hb1.size; simp at this; omega
      clear hb1
      have q0 : QF w.heap.size w1.heap.size w (w1.alloc (.cells #[.string ⟨(nme k).toArray⟩, .int .i64 (0), .int .i64 (mn k), .string ⟨(lt 5).toArray⟩, .string ⟨(ordr k).toArray⟩, .string ⟨(kindR k).toArray⟩] 67)) k s t d m ⟨(nme k).toArray⟩ (0) (mn k) ⟨(lt 5).toArray⟩ ⟨(ordr k).toArray⟩ ⟨(kindR k).toArray⟩ :=
        ⟨by rw [World.cell?_alloc_lt _ _ _ hz1]; exact c0, by rw [World.cell?_alloc_lt _ _ _ hz1]; exact c1, by rw [World.cell?_alloc_lt _ _ _ hz1]; exact c2, by rw [World.cell?_alloc_lt _ _ _ hz1]; exact c3, by rw [World.cell?_alloc_lt _ _ _ hz1]; exact c4, by simp, by simp, by simp, by simp, by simp, by simp, bF _⟩
      go_wp2_with fail
      generalize w1.alloc (.cells #[.string ⟨(nme k).toArray⟩, .int .i64 (0), .int .i64 (mn k), .string ⟨(lt 5).toArray⟩, .string ⟨(ordr k).toArray⟩, .string ⟨(kindR k).toArray⟩] 67) = W0 at q0 ⊢
      clear c0 c1 c2 c3 c4
      obtain ⟨c0, c1, c2, c3, c4, e0, e1, e2, e3, e4, e5, bW⟩ := q0
      go_quiet ((first | (go_at_call 32; exact Calls.quiet_of_same (isOf_lt 5 (by decide) _ _)) | (go_at_call 31; exact Calls.quiet_of_same (well_any _ _ _))))
      have q1 := (QF.mk c0 c1 c2 c3 c4 e0 e1 e2 e3 e4 e5 bW).drewN nq
      generalize W0.drewN nq = W1 at q1 ⊢
      clear c0 c1 c2 c3 c4 e0 e1 e2 e3 e4 e5 bW
      obtain ⟨c0, c1, c2, c3, c4, e0, e1, e2, e3, e4, e5, bW⟩ := q1
      go_wp2_with fail
      go_quiet ((first | (go_at_call 32; exact Calls.quiet_of_same (isOf_lt 5 (by decide) _ _)) | (go_at_call 31; exact Calls.quiet_of_same (well_any _ _ _))))
      have q2 := (QF.mk c0 c1 c2 c3 c4 e0 e1 e2 e3 e4 e5 bW).drewN nq
      generalize W1.drewN nq = W2 at q2 ⊢
      clear c0 c1 c2 c3 c4 e0 e1 e2 e3 e4 e5 bW
      obtain ⟨c0, c1, c2, c3, c4, e0, e1, e2, e3, e4, e5, bW⟩ := q2
      go_wp2_with fail
      go_quiet ((first | (go_at_call 32; exact Calls.quiet_of_same (isOf_lt 5 (by decide) _ _)) | (go_at_call 31; exact Calls.quiet_of_same (well_any _ _ _))))
      have q3 := (QF.mk c0 c1 c2 c3 c4 e0 e1 e2 e3 e4 e5 bW).drewN nq
      generalize W2.drewN nq = W3 at q3 ⊢
      clear c0 c1 c2 c3 c4 e0 e1 e2 e3 e4 e5 bW
      obtain ⟨c0, c1, c2, c3, c4, e0, e1, e2, e3, e4, e5, bW⟩ := q3
      go_wp2_with (go_at_call 32; refine (isOf_lt 5 (by decide) _ _).mono ?_; rintro e w' ⟨rfl, rfl⟩)
      go_ret2
      exact ⟨by rw [encO_bad HO.out]; rfl, bW⟩
  · have ws' : well s false = false := by simpa using ws
    have HO : Hid (okB (sh k) s t d m = false) := by show okB _ _ _ _ _ = _; rw [hsh]; simp [okB, hasS, hasT, hasD, lt, ltL, ws']
    go_enter Tryz.func9, Tryz.ntmps9
    go_wp2_with (go_at_call 30; refine (rowOf_in k k0 k1 _).mono ?_; rintro e w1 ⟨rfl, hb1⟩)
    have bA : Below w.heap.size w w1 := ((Below.refl _ _).alloc (Nat.le_refl _) _).trans (hb1.mono (by simp))
    have bF : ∀ o, Below w.heap.size w (w1.alloc o) := fun o => bA.alloc bA.size _
    have c : ∀ q, w1.cell? ⟨w.heap.size, q, none⟩ = _ := fun q => hb1.cell (p := ⟨w.heap.size, q, none⟩) (by simp)
    have c0 := c 0
    have c1 := c 1
    have c2 := c 2
    have c3 := c 3
    have c4 := c 4
    clear c
    simp at c0 c1 c2 c3 c4
    have hz1 : w.heap.size < w1.heap.size := by have := hb1.size; simp at this; omega
    clear hb1
    have q0 : QF w.heap.size w1.heap.size w (w1.alloc (.cells #[.string ⟨(nme k).toArray⟩, .int .i64 (0), .int .i64 (mn k), .string ⟨(lt 5).toArray⟩, .string ⟨(ordr k).toArray⟩, .string ⟨(kindR k).toArray⟩] 67)) k s t d m ⟨(nme k).toArray⟩ (0) (mn k) ⟨(lt 5).toArray⟩ ⟨(ordr k).toArray⟩ ⟨(kindR k).toArray⟩ :=
      ⟨by rw [World.cell?_alloc_lt _ _ _ hz1]; exact c0, by rw [World.cell?_alloc_lt _ _ _ hz1]; exact c1, by rw [World.cell?_alloc_lt _ _ _ hz1]; exact c2, by rw [World.cell?_alloc_lt _ _ _ hz1]; exact c3, by rw [World.cell?_alloc_lt _ _ _ hz1]; exact c4, by simp, by simp, by simp, by simp, by simp, by simp, bF _⟩
    go_wp2_with fail
    generalize w1.alloc (.cells #[.string ⟨(nme k).toArray⟩, .int .i64 (0), .int .i64 (mn k), .string ⟨(lt 5).toArray⟩, .string ⟨(ordr k).toArray⟩, .string ⟨(kindR k).toArray⟩] 67) = W0 at q0 ⊢
    clear c0 c1 c2 c3 c4
    obtain ⟨c0, c1, c2, c3, c4, e0, e1, e2, e3, e4, e5, bW⟩ := q0
    go_quiet ((first | (go_at_call 32; exact Calls.quiet_of_same (isOf_lt 5 (by decide) _ _)) | (go_at_call 31; exact Calls.quiet_of_same (well_any _ _ _))))
    have q1 := (QF.mk c0 c1 c2 c3 c4 e0 e1 e2 e3 e4 e5 bW).drewN nq
    generalize W0.drewN nq = W1 at q1 ⊢
    clear c0 c1 c2 c3 c4 e0 e1 e2 e3 e4 e5 bW
    obtain ⟨c0, c1, c2, c3, c4, e0, e1, e2, e3, e4, e5, bW⟩ := q1
    go_wp2_with fail
    go_quiet ((first | (go_at_call 32; exact Calls.quiet_of_same (isOf_lt 5 (by decide) _ _)) | (go_at_call 31; exact Calls.quiet_of_same (well_any _ _ _))))
    have q2 := (QF.mk c0 c1 c2 c3 c4 e0 e1 e2 e3 e4 e5 bW).drewN nq
    generalize W1.drewN nq = W2 at q2 ⊢
    clear c0 c1 c2 c3 c4 e0 e1 e2 e3 e4 e5 bW
    obtain ⟨c0, c1, c2, c3, c4, e0, e1, e2, e3, e4, e5, bW⟩ := q2
    go_wp2_with fail
    go_quiet ((first | (go_at_call 32; exact Calls.quiet_of_same (isOf_lt 5 (by decide) _ _)) | (go_at_call 31; exact Calls.quiet_of_same (well_any _ _ _))))
    have q3 := (QF.mk c0 c1 c2 c3 c4 e0 e1 e2 e3 e4 e5 bW).drewN nq
    generalize W2.drewN nq = W3 at q3 ⊢
    clear c0 c1 c2 c3 c4 e0 e1 e2 e3 e4 e5 bW
    obtain ⟨c0, c1, c2, c3, c4, e0, e1, e2, e3, e4, e5, bW⟩ := q3
    go_wp2_with (go_at_call 32; refine (isOf_lt 5 (by decide) _ _).mono ?_; rintro e w' ⟨rfl, rfl⟩)
    go_ret2
    exact ⟨by rw [encO_bad HO.out]; rfl, bW⟩
set_option maxHeartbeats 4000000 in
theorem encodeOf_6 (k : Nat) (h1 : 1 ≤ k) (hk : k < 54) (hsh : sh k = 6) (hM : mj k = 0) (n0 : 0 ≤ mn k) (n1 : mn k < 64) (hfst : fst k = mn k) (s t d m : Int) (m0 : 0 ≤ m) (m1 : m < 4294967296) (w : World) :
    Calls Tryz.prog 9 #[ins k s t d m] w fun e w' => e = .returned (encO k s t d m) ∧ Below w.heap.size w w' := by
  have k0 : (1 : Int) ≤ k := by omega
  have k1 : (k : Int) < 54 := by omega
  have hfl : flds k = lt 6 := by show lt (sh k) = _; rw [hsh]
  have f83 : hasB (lt 6) 83 = true := by decide
  have f84 : hasB (lt 6) 84 = true := by decide
  have f68 : hasB (lt 6) 68 = false := by decide
  have f97 : hasB (lt 6) 97 = false := by decide
  have f105 : hasB (lt 6) 105 = false := by decide
  have f106 : hasB (lt 6) 106 = false := by decide
  by_cases ws : well s true = true
  · have bs := well_of ws
    by_cases wt : well t true = true
    · have bt := well_of wt
      by_cases wd : well d false = true
      · have bd := well_of wd
        simp at bs bt bd
        subst bd
        by_cases hm : m ≤ 0
        · have HO : Hid (okB (sh k) s t 0 m = true) := by show okB _ _ _ _ _ = _; rw [hsh]; simp [okB, hasS, hasT, hasD, hasA, hasI, hasJ, top, lt, ltL]; exact (by first | exact ⟨⟨⟨ws, wt⟩, wd⟩, by omega⟩ | (refine ⟨?_, by omega⟩; simp_all) | simp_all)
          have HE : Hid (enc k s t 0 m = mn k + s * 2097152 + t * 65536 + 0 * 2048 + m * 1) := by show enc k _ _ _ m = _; unfold enc by_; rw [hsh, hfst]; simp [hasA, lt, ltL]
          go_enter Tryz.func9, Tryz.ntmps9
          go_wp2_with (go_at_call 30; refine (rowOf_in k k0 k1 _).mono ?_; rintro e w1 ⟨rfl, hb1⟩)
          have bA : Below w.heap.size w w1 := ((Below.refl _ _).alloc (Nat.le_refl _) _).trans (hb1.mono (by simp))
          have bF : ∀ o, Below w.heap.size w (w1.alloc o) := fun o => bA.alloc bA.size _
          have c : ∀ q, w1.cell? ⟨w.heap.size, q, none⟩ = _ := fun q => hb1.cell (p := ⟨w.heap.size, q, none⟩) (by simp)
          have c0 := c 0
          have c1 := c 1
          have c2 := c 2
          have c3 := c 3
          have c4 := c 4
          clear c
          simp at c0 c1 c2 c3 c4
          have hz1 : w.heap.size < w1.heap.size := by have := hb1.size; simp at this; omega
          clear hb1
          have q0 : QF w.heap.size w1.heap.size w (w1.alloc (.cells #[.string ⟨(nme k).toArray⟩, .int .i64 (0), .int .i64 (mn k), .string ⟨(lt 6).toArray⟩, .string ⟨(ordr k).toArray⟩, .string ⟨(kindR k).toArray⟩] 67)) k s t 0 m ⟨(nme k).toArray⟩ (0) (mn k) ⟨(lt 6).toArray⟩ ⟨(ordr k).toArray⟩ ⟨(kindR k).toArray⟩ :=
            ⟨by rw [World.cell?_alloc_lt _ _ _ hz1]; exact c0, by rw [World.cell?_alloc_lt _ _ _ hz1]; exact c1, by rw [World.cell?_alloc_lt _ _ _ hz1]; exact c2, by rw [World.cell?_alloc_lt _ _ _ hz1]; exact c3, by rw [World.cell?_alloc_lt _ _ _ hz1]; exact c4, by simp, by simp, by simp, by simp, by simp, by simp, bF _⟩
          go_wp2_with fail
          generalize w1.alloc (.cells #[.string ⟨(nme k).toArray⟩, .int .i64 (0), .int .i64 (mn k), .string ⟨(lt 6).toArray⟩, .string ⟨(ordr k).toArray⟩, .string ⟨(kindR k).toArray⟩] 67) = W0 at q0 ⊢
          clear c0 c1 c2 c3 c4
          obtain ⟨c0, c1, c2, c3, c4, e0, e1, e2, e3, e4, e5, bW⟩ := q0
          go_quiet ((first | (go_at_call 32; exact Calls.quiet_of_same (isOf_lt 6 (by decide) _ _)) | (go_at_call 31; exact Calls.quiet_of_same (well_any _ _ _))))
          have q1 := (QF.mk c0 c1 c2 c3 c4 e0 e1 e2 e3 e4 e5 bW).drewN nq
          generalize W0.drewN nq = W1 at q1 ⊢
          clear c0 c1 c2 c3 c4 e0 e1 e2 e3 e4 e5 bW
          obtain ⟨c0, c1, c2, c3, c4, e0, e1, e2, e3, e4, e5, bW⟩ := q1
          go_wp2_with fail
          go_quiet ((first | (go_at_call 32; exact Calls.quiet_of_same (isOf_lt 6 (by decide) _ _)) | (go_at_call 31; exact Calls.quiet_of_same (well_any _ _ _))))
          have q2 := (QF.mk c0 c1 c2 c3 c4 e0 e1 e2 e3 e4 e5 bW).drewN nq
          generalize W1.drewN nq = W2 at q2 ⊢
          clear c0 c1 c2 c3 c4 e0 e1 e2 e3 e4 e5 bW
          obtain ⟨c0, c1, c2, c3, c4, e0, e1, e2, e3, e4, e5, bW⟩ := q2
          go_wp2_with fail
          go_quiet ((first | (go_at_call 32; exact Calls.quiet_of_same (isOf_lt 6 (by decide) _ _)) | (go_at_call 31; exact Calls.quiet_of_same (well_any _ _ _))))
          have q3 := (QF.mk c0 c1 c2 c3 c4 e0 e1 e2 e3 e4 e5 bW).drewN nq
          generalize W2.drewN nq = W3 at q3 ⊢
          clear c0 c1 c2 c3 c4 e0 e1 e2 e3 e4 e5 bW
          obtain ⟨c0, c1, c2, c3, c4, e0, e1, e2, e3, e4, e5, bW⟩ := q3
          go_wp2_with (go_at_call 32; refine (isOf_lt 6 (by decide) _ _).mono ?_; rintro e w' ⟨rfl, rfl⟩)
          go_ret2
          exact ⟨by rw [encO_ok HO.out, HE.out]; exact ret_oo (by omega) rfl, bW⟩
        · have hm' : 0 < m := by omega
          have HO : Hid (okB (sh k) s t 0 m = false) := by show okB _ _ _ _ _ = _; rw [hsh]; simp [okB, hasS, hasT, hasD, hasA, hasI, hasJ, top, lt, ltL]; intros; omega
          go_enter Tryz.func9, Tryz.ntmps9
          go_wp2_with (go_at_call 30; refine (rowOf_in k k0 k1 _).mono ?_; rintro e w1 ⟨rfl, hb1⟩)
          have bA : Below w.heap.size w w1 := ((Below.refl _ _).alloc (Nat.le_refl _) _).trans (hb1.mono (by simp))
          have bF : ∀ o, Below w.heap.size w (w1.alloc o) := fun o => bA.alloc bA.size _
          have c : ∀ q, w1.cell? ⟨w.heap.size, q, none⟩ = _ := fun q => hb1.cell (p := ⟨w.heap.size, q, none⟩) (by simp)
          have c0 := c 0
          have c1 := c 1
          have c2 := c 2
          have c3 := c 3
          have c4 := c 4
          clear c
          simp at c0 c1 c2 c3 c4
          have hz1 : w.heap.size < w1.heap.size := by have := hb1.size; simp at this; omega
          clear hb1
          have q0 : QF w.heap.size w1.heap.size w (w1.alloc (.cells #[.string ⟨(nme k).toArray⟩, .int .i64 (0), .int .i64 (mn k), .string ⟨(lt 6).toArray⟩, .string ⟨(ordr k).toArray⟩, .string ⟨(kindR k).toArray⟩] 67)) k s t 0 m ⟨(nme k).toArray⟩ (0) (mn k) ⟨(lt 6).toArray⟩ ⟨(ordr k).toArray⟩ ⟨(kindR k).toArray⟩ :=
            ⟨by rw [World.cell?_alloc_lt _ _ _ hz1]; exact c0, by rw [World.cell?_alloc_lt _ _ _ hz1]; exact c1, by rw [World.cell?_alloc_lt _ _ _ hz1]; exact c2, by rw [World.cell?_alloc_lt _ _ _ hz1]; exact c3, by rw [World.cell?_alloc_lt _ _ _ hz1]; exact c4, by simp, by simp, by simp, by simp, by simp, by simp, bF _⟩
          go_wp2_with fail
          generalize w1.alloc (.cells #[.string ⟨(nme k).toArray⟩, .int .i64 (0), .int .i64 (mn k), .string ⟨(lt 6).toArray⟩, .string ⟨(ordr k).toArray⟩, .string ⟨(kindR k).toArray⟩] 67) = W0 at q0 ⊢
          clear c0 c1 c2 c3 c4
          obtain ⟨c0, c1, c2, c3, c4, e0, e1, e2, e3, e4, e5, bW⟩ := q0
          go_quiet ((first | (go_at_call 32; exact Calls.quiet_of_same (isOf_lt 6 (by decide) _ _)) | (go_at_call 31; exact Calls.quiet_of_same (well_any _ _ _))))
          have q1 := (QF.mk c0 c1 c2 c3 c4 e0 e1 e2 e3 e4 e5 bW).drewN nq
          generalize W0.drewN nq = W1 at q1 ⊢
          clear c0 c1 c2 c3 c4 e0 e1 e2 e3 e4 e5 bW
          obtain ⟨c0, c1, c2, c3, c4, e0, e1, e2, e3, e4, e5, bW⟩ := q1
          go_wp2_with fail
          go_quiet ((first | (go_at_call 32; exact Calls.quiet_of_same (isOf_lt 6 (by decide) _ _)) | (go_at_call 31; exact Calls.quiet_of_same (well_any _ _ _))))
          have q2 := (QF.mk c0 c1 c2 c3 c4 e0 e1 e2 e3 e4 e5 bW).drewN nq
          generalize W1.drewN nq = W2 at q2 ⊢
          clear c0 c1 c2 c3 c4 e0 e1 e2 e3 e4 e5 bW
          obtain ⟨c0, c1, c2, c3, c4, e0, e1, e2, e3, e4, e5, bW⟩ := q2
          go_wp2_with fail
          go_quiet ((first | (go_at_call 32; exact Calls.quiet_of_same (isOf_lt 6 (by decide) _ _)) | (go_at_call 31; exact Calls.quiet_of_same (well_any _ _ _))))
          have q3 := (QF.mk c0 c1 c2 c3 c4 e0 e1 e2 e3 e4 e5 bW).drewN nq
          generalize W2.drewN nq = W3 at q3 ⊢
          clear c0 c1 c2 c3 c4 e0 e1 e2 e3 e4 e5 bW
          obtain ⟨c0, c1, c2, c3, c4, e0, e1, e2, e3, e4, e5, bW⟩ := q3
          go_wp2_with (go_at_call 32; refine (isOf_lt 6 (by decide) _ _).mono ?_; rintro e w' ⟨rfl, rfl⟩)
          go_ret2
          exact ⟨by rw [encO_bad HO.out]; rfl, bW⟩
      · have wd' : well d false = false := by simpa using wd
        have HO : Hid (okB (sh k) s t d m = false) := by show okB _ _ _ _ _ = _; rw [hsh]; simp [okB, hasS, hasT, hasD, lt, ltL, wd']
        go_enter Tryz.func9, Tryz.ntmps9
        go_wp2_with (go_at_call 30; refine (rowOf_in k k0 k1 _).mono ?_; rintro e w1 ⟨rfl, hb1⟩)
        have bA : Below w.heap.size w w1 := ((Below.refl _ _).alloc (Nat.le_refl _) _).trans (hb1.mono (by simp))
        have bF : ∀ o, Below w.heap.size w (w1.alloc o) := fun o => bA.alloc bA.size _
        have c : ∀ q, w1.cell? ⟨w.heap.size, q, none⟩ = _ := fun q => hb1.cell (p := ⟨w.heap.size, q, none⟩) (by simp)
        have c0 := c 0
        have c1 := c 1
        have c2 := c 2
        have c3 := c 3
        have c4 := c 4
        clear c
        simp at c0 c1 c2 c3 c4
        have hz1 : w.heap.size < w1.heap.size := by have := hb1.size; simp at this; omega
        clear hb1
        have q0 : QF w.heap.size w1.heap.size w (w1.alloc (.cells #[.string ⟨(nme k).toArray⟩, .int .i64 (0), .int .i64 (mn k), .string ⟨(lt 6).toArray⟩, .string ⟨(ordr k).toArray⟩, .string ⟨(kindR k).toArray⟩] 67)) k s t d m ⟨(nme k).toArray⟩ (0) (mn k) ⟨(lt 6).toArray⟩ ⟨(ordr k).toArray⟩ ⟨(kindR k).toArray⟩ :=
          ⟨by rw [World.cell?_alloc_lt _ _ _ hz1]; exact c0, by rw [World.cell?_alloc_lt _ _ _ hz1]; exact c1, by rw [World.cell?_alloc_lt _ _ _ hz1]; exact c2, by rw [World.cell?_alloc_lt _ _ _ hz1]; exact c3, by rw [World.cell?_alloc_lt _ _ _ hz1]; exact c4, by simp, by simp, by simp, by simp, by simp, by simp, bF _⟩
        go_wp2_with fail
        generalize w1.alloc (.cells #[.string ⟨(nme k).toArray⟩, .int .i64 (0), .int .i64 (mn k), .string ⟨(lt 6).toArray⟩, .string ⟨(ordr k).toArray⟩, .string ⟨(kindR k).toArray⟩] 67) = W0 at q0 ⊢
        clear c0 c1 c2 c3 c4
        obtain ⟨c0, c1, c2, c3, c4, e0, e1, e2, e3, e4, e5, bW⟩ := q0
        go_quiet ((first | (go_at_call 32; exact Calls.quiet_of_same (isOf_lt 6 (by decide) _ _)) | (go_at_call 31; exact Calls.quiet_of_same (well_any _ _ _))))
        have q1 := (QF.mk c0 c1 c2 c3 c4 e0 e1 e2 e3 e4 e5 bW).drewN nq
        generalize W0.drewN nq = W1 at q1 ⊢
        clear c0 c1 c2 c3 c4 e0 e1 e2 e3 e4 e5 bW
        obtain ⟨c0, c1, c2, c3, c4, e0, e1, e2, e3, e4, e5, bW⟩ := q1
        go_wp2_with fail
        go_quiet ((first | (go_at_call 32; exact Calls.quiet_of_same (isOf_lt 6 (by decide) _ _)) | (go_at_call 31; exact Calls.quiet_of_same (well_any _ _ _))))
        have q2 := (QF.mk c0 c1 c2 c3 c4 e0 e1 e2 e3 e4 e5 bW).drewN nq
        generalize W1.drewN nq = W2 at q2 ⊢
        clear c0 c1 c2 c3 c4 e0 e1 e2 e3 e4 e5 bW
        obtain ⟨c0, c1, c2, c3, c4, e0, e1, e2, e3, e4, e5, bW⟩ := q2
        go_wp2_with fail
        go_quiet ((first | (go_at_call 32; exact Calls.quiet_of_same (isOf_lt 6 (by decide) _ _)) | (go_at_call 31; exact Calls.quiet_of_same (well_any _ _ _))))
        have q3 := (QF.mk c0 c1 c2 c3 c4 e0 e1 e2 e3 e4 e5 bW).drewN nq
        generalize W2.drewN nq = W3 at q3 ⊢
        clear c0 c1 c2 c3 c4 e0 e1 e2 e3 e4 e5 bW
        obtain ⟨c0, c1, c2, c3, c4, e0, e1, e2, e3, e4, e5, bW⟩ := q3
        go_wp2_with (go_at_call 32; refine (isOf_lt 6 (by decide) _ _).mono ?_; rintro e w' ⟨rfl, rfl⟩)
        go_ret2
        exact ⟨by rw [encO_bad HO.out]; rfl, bW⟩
    · have wt' : well t true = false := by simpa using wt
      have HO : Hid (okB (sh k) s t d m = false) := by show okB _ _ _ _ _ = _; rw [hsh]; simp [okB, hasS, hasT, hasD, lt, ltL, wt']
      go_enter Tryz.func9, Tryz.ntmps9
      go_wp2_with (go_at_call 30; refine (rowOf_in k k0 k1 _).mono ?_; rintro e w1 ⟨rfl, hb1⟩)
      have bA : Below w.heap.size w w1 := ((Below.refl _ _).alloc (Nat.le_refl _) _).trans (hb1.mono (by simp))
      have bF : ∀ o, Below w.heap.size w (w1.alloc o) := fun o => bA.alloc bA.size _
      have c : ∀ q, w1.cell? ⟨w.heap.size, q, none⟩ = _ := fun q => hb1.cell (p := ⟨w.heap.size, q, none⟩) (by simp)
      have c0 := c 0
      have c1 := c 1
      have c2 := c 2
      have c3 := c 3
      have c4 := c 4
      clear c
      simp at c0 c1 c2 c3 c4
      have hz1 : w.heap.size < w1.heap.size := by have := hb1.size; simp at this; omega
      clear hb1
      have q0 : QF w.heap.size w1.heap.size w (w1.alloc (.cells #[.string ⟨(nme k).toArray⟩, .int .i64 (0), .int .i64 (mn k), .string ⟨(lt 6).toArray⟩, .string ⟨(ordr k).toArray⟩, .string ⟨(kindR k).toArray⟩] 67)) k s t d m ⟨(nme k).toArray⟩ (0) (mn k) ⟨(lt 6).toArray⟩ ⟨(ordr k).toArray⟩ ⟨(kindR k).toArray⟩ :=
        ⟨by rw [World.cell?_alloc_lt _ _ _ hz1]; exact c0, by rw [World.cell?_alloc_lt _ _ _ hz1]; exact c1, by rw [World.cell?_alloc_lt _ _ _ hz1]; exact c2, by rw [World.cell?_alloc_lt _ _ _ hz1]; exact c3, by rw [World.cell?_alloc_lt _ _ _ hz1]; exact c4, by simp, by simp, by simp, by simp, by simp, by simp, bF _⟩
      go_wp2_with fail
      generalize w1.alloc (.cells #[.string ⟨(nme k).toArray⟩, .int .i64 (0), .int .i64 (mn k), .string ⟨(lt 6).toArray⟩, .string ⟨(ordr k).toArray⟩, .string ⟨(kindR k).toArray⟩] 67) = W0 at q0 ⊢
      clear c0 c1 c2 c3 c4
      obtain ⟨c0, c1, c2, c3, c4, e0, e1, e2, e3, e4, e5, bW⟩ := q0
      go_quiet ((first | (go_at_call 32; exact Calls.quiet_of_same (isOf_lt 6 (by decide) _ _)) | (go_at_call 31; exact Calls.quiet_of_same (well_any _ _ _))))
      have q1 := (QF.mk c0 c1 c2 c3 c4 e0 e1 e2 e3 e4 e5 bW).drewN nq
      generalize W0.drewN nq = W1 at q1 ⊢
      clear c0 c1 c2 c3 c4 e0 e1 e2 e3 e4 e5 bW
      obtain ⟨c0, c1, c2, c3, c4, e0, e1, e2, e3, e4, e5, bW⟩ := q1
      go_wp2_with fail
      go_quiet ((first | (go_at_call 32; exact Calls.quiet_of_same (isOf_lt 6 (by decide) _ _)) | (go_at_call 31; exact Calls.quiet_of_same (well_any _ _ _))))
      have q2 := (QF.mk c0 c1 c2 c3 c4 e0 e1 e2 e3 e4 e5 bW).drewN nq
      generalize W1.drewN nq = W2 at q2 ⊢
      clear c0 c1 c2 c3 c4 e0 e1 e2 e3 e4 e5 bW
      obtain ⟨c0, c1, c2, c3, c4, e0, e1, e2, e3, e4, e5, bW⟩ := q2
      go_wp2_with fail
      go_quiet ((first | (go_at_call 32; exact Calls.quiet_of_same (isOf_lt 6 (by decide) _ _)) | (go_at_call 31; exact Calls.quiet_of_same (well_any _ _ _))))
      have q3 := (QF.mk c0 c1 c2 c3 c4 e0 e1 e2 e3 e4 e5 bW).drewN nq
      generalize W2.drewN nq = W3 at q3 ⊢
      clear c0 c1 c2 c3 c4 e0 e1 e2 e3 e4 e5 bW
      obtain ⟨c0, c1, c2, c3, c4, e0, e1, e2, e3, e4, e5, bW⟩ := q3
      go_wp2_with (go_at_call 32; refine (isOf_lt 6 (by decide) _ _).mono ?_; rintro e w' ⟨rfl, rfl⟩)
      go_ret2
      exact ⟨by rw [encO_bad HO.out]; rfl, bW⟩
  · have ws' : well s true = false := by simpa using ws
    have HO : Hid (okB (sh k) s t d m = false) := by show okB _ _ _ _ _ = _; rw [hsh]; simp [okB, hasS, hasT, hasD, lt, ltL, ws']
    go_enter Tryz.func9, Tryz.ntmps9
    go_wp2_with (go_at_call 30; refine (rowOf_in k k0 k1 _).mono ?_; rintro e w1 ⟨rfl, hb1⟩)
    have bA : Below w.heap.size w w1 := ((Below.refl _ _).alloc (Nat.le_refl _) _).trans (hb1.mono (by simp))
    have bF : ∀ o, Below w.heap.size w (w1.alloc o) := fun o => bA.alloc bA.size _
    have c : ∀ q, w1.cell? ⟨w.heap.size, q, none⟩ = _ := fun q => hb1.cell (p := ⟨w.heap.size, q, none⟩) (by simp)
    have c0 := c 0
    have c1 := c 1
    have c2 := c 2
    have c3 := c 3
    have c4 := c 4
    clear c
    simp at c0 c1 c2 c3 c4
    have hz1 : w.heap.size < w1.heap.size := by have := hb1.size; simp at this; omega
    clear hb1
    have q0 : QF w.heap.size w1.heap.size w (w1.alloc (.cells #[.string ⟨(nme k).toArray⟩, .int .i64 (0), .int .i64 (mn k), .string ⟨(lt 6).toArray⟩, .string ⟨(ordr k).toArray⟩, .string ⟨(kindR k).toArray⟩] 67)) k s t d m ⟨(nme k).toArray⟩ (0) (mn k) ⟨(lt 6).toArray⟩ ⟨(ordr k).toArray⟩ ⟨(kindR k).toArray⟩ :=
      ⟨by rw [World.cell?_alloc_lt _ _ _ hz1]; exact c0, by rw [World.cell?_alloc_lt _ _ _ hz1]; exact c1, by rw [World.cell?_alloc_lt _ _ _ hz1]; exact c2, by rw [World.cell?_alloc_lt _ _ _ hz1]; exact c3, by rw [World.cell?_alloc_lt _ _ _ hz1]; exact c4, by simp, by simp, by simp, by simp, by simp, by simp, bF _⟩
    go_wp2_with fail
    generalize w1.alloc (.cells #[.string ⟨(nme k).toArray⟩, .int .i64 (0), .int .i64 (mn k), .string ⟨(lt 6).toArray⟩, .string ⟨(ordr k).toArray⟩, .string ⟨(kindR k).toArray⟩] 67) = W0 at q0 ⊢
    clear c0 c1 c2 c3 c4
    obtain ⟨c0, c1, c2, c3, c4, e0, e1, e2, e3, e4, e5, bW⟩ := q0
    go_quiet ((first | (go_at_call 32; exact Calls.quiet_of_same (isOf_lt 6 (by decide) _ _)) | (go_at_call 31; exact Calls.quiet_of_same (well_any _ _ _))))
    have q1 := (QF.mk c0 c1 c2 c3 c4 e0 e1 e2 e3 e4 e5 bW).drewN nq
    generalize W0.drewN nq = W1 at q1 ⊢
    clear c0 c1 c2 c3 c4 e0 e1 e2 e3 e4 e5 bW
    obtain ⟨c0, c1, c2, c3, c4, e0, e1, e2, e3, e4, e5, bW⟩ := q1
    go_wp2_with fail
    go_quiet ((first | (go_at_call 32; exact Calls.quiet_of_same (isOf_lt 6 (by decide) _ _)) | (go_at_call 31; exact Calls.quiet_of_same (well_any _ _ _))))
    have q2 := (QF.mk c0 c1 c2 c3 c4 e0 e1 e2 e3 e4 e5 bW).drewN nq
    generalize W1.drewN nq = W2 at q2 ⊢
    clear c0 c1 c2 c3 c4 e0 e1 e2 e3 e4 e5 bW
    obtain ⟨c0, c1, c2, c3, c4, e0, e1, e2, e3, e4, e5, bW⟩ := q2
    go_wp2_with fail
    go_quiet ((first | (go_at_call 32; exact Calls.quiet_of_same (isOf_lt 6 (by decide) _ _)) | (go_at_call 31; exact Calls.quiet_of_same (well_any _ _ _))))
    have q3 := (QF.mk c0 c1 c2 c3 c4 e0 e1 e2 e3 e4 e5 bW).drewN nq
    generalize W2.drewN nq = W3 at q3 ⊢
    clear c0 c1 c2 c3 c4 e0 e1 e2 e3 e4 e5 bW
    obtain ⟨c0, c1, c2, c3, c4, e0, e1, e2, e3, e4, e5, bW⟩ := q3
    go_wp2_with (go_at_call 32; refine (isOf_lt 6 (by decide) _ _).mono ?_; rintro e w' ⟨rfl, rfl⟩)
    go_ret2
    exact ⟨by rw [encO_bad HO.out]; rfl, bW⟩
end Go.Proofs.YtccnliihdhnckaaGreatDoor
