/-
  What the verifier's DecodeOf answers: the instruction whose word it is, or none.
-/
import Derived.Test.YtccnliihdhnckaaGreatDoorQDecode
import Derived.Test.YtccnliihdhnckaaGreatDoorKEr9
namespace Go.Proofs.YtccnliihdhnckaaGreatDoor
open Go.RowKit Go.Extern.Stop Go.Stop Go.Extern
open Num Tab Fm
set_option linter.unusedVariables false
theorem RowAt.stays {b k : Nat} {w w' : World} (r : RowAt b k w) (h : Below w.heap.size w w') : RowAt b k w' := by
  have s : ∀ {o v}, w.cell? ⟨b, o, none⟩ = some v → w'.cell? ⟨b, o, none⟩ = some v := fun e => cell_stays h (Nat.le_refl _) e
  exact ⟨s r.c0, s r.c1, s r.c2, s r.c3, s r.c4, s r.c5⟩
set_option maxHeartbeats 40000000 in
theorem decodeOf_any (v : Int) (h0 : 0 ≤ v) (h1 : v < 4294967296) (w : World) :
    Calls Tryz.prog 50 #[.int .u32 v] w fun e w' => ∃ k : Nat, DecP v k ∧ e = .returned (decR v k) ∧ Below w.heap.size w w' := by
  have bA : Below w.heap.size w (w.alloc (.cells #[.int .i64 0, .int .i64 0, .int .i64 0, .int .i64 0, .int .u32 0] 24)) := (Below.refl _ _).alloc (Nat.le_refl _) _
  have q21 := p21 v
  have q16 := p16 v
  have q11 := p11 v
  have q6 := p6 v
  have q0i := p0i v
  have q0j := p0j v
  go_enter Tryz.func50, Tryz.ntmps50
  go_wp2_with fail
  refine (rows_any' _).mono ?_
  rintro e w1 ⟨rfl, hb1, ht1⟩
  simp only [World.size_alloc] at ht1
  have Z1 : ZAt w.heap.size w1 := (ZAt.alloc w).stays hb1 (by simp)
  have b1 : Below w.heap.size w w1 := bA.trans (hb1.mono (by simp))
  have hz1 : w.heap.size + 1 < w1.heap.size := cell_lt (ht1 0 (by omega)).c0
  clear hb1 bA
  go_wp2_with fail
  go_loopw [4] (fun a wr => ∃ p : Nat, 1 ≤ p ∧ p ≤ 54 ∧ a = .int .i64 p ∧ Hid (∀ j, 1 ≤ j → j < p → xw j v ≠ v) ∧ TabAt (w.heap.size + 1) wr ∧ ZAt w.heap.size wr ∧ Below w.heap.size w wr ∧ w.heap.size + 1 < wr.heap.size) (fun a _ => 54 - (intOf a).toNat)
  case atStart => exact ⟨1, by omega, by omega, rfl, fun j j1 j2 => by omega, ht1, Z1, b1, hz1⟩
  case round =>
    obtain ⟨p, hp1, hp2, rfl, HN, HTb, HZ, hbr, hzr⟩ := hrel
    have p0' : (1 : Int) ≤ p := by omega
    by_cases hlt : (p : Int) < 54
    · have R := HTb p (by omega)
      obtain ⟨r0, r1, r2, r3, r4, r5⟩ := R
      go_wp2_with fail
      refine (matches_any p (by omega) hp1 v h0 h1 _).mono ?_
      rintro e w2 ⟨rfl, hb2⟩
      have R2 := RowAt.stays (RowAt.mk r0 r1 r2 r3 r4 r5) hb2
      have Z2 := HZ.stays hb2 (by omega)
      have b2 : Below w.heap.size w w2 := hbr.trans (hb2.mono (by omega))
      have hz2 : w.heap.size + 1 < w2.heap.size := by have := hb2.size; omega
      by_cases hx : xw p v = v
      · have hd : decide (xw p v = v) = true := by simpa using hx
        have HX : Hid (xw p v = v) := hx
        clear hx
        obtain ⟨r0, r1, r2, r3, r4, r5⟩ := R2
        obtain ⟨z0, z1, z2, z3, z4, zf⟩ := Z2
        have hz3 : w.heap.size < w2.heap.size := by omega
        have bF : ∀ o, Below w.heap.size w (w2.alloc o) := fun o => b2.alloc b2.size _
        have hn := sh_all p (by omega)
        obtain ⟨n, hsh⟩ : ∃ n, sh p = n := ⟨_, rfl⟩
        have hfl : flds p = lt n := by rw [← hsh]; rfl
        rw [hfl] at r3
        have HR : Hid (decR v p = ins p (xs n v) (xt n v) (xd n v) (xm n v)) := by show decR v p = _; unfold decR; rw [hsh]
        rw [hsh] at hn
        clear hfl hsh HN HTb HZ hbr hb2
        have hc : n = 0 ∨ n = 1 ∨ n = 2 ∨ n = 3 ∨ n = 4 ∨ n = 5 ∨ n = 6 ∨ n = 7 ∨ n = 8 ∨ n = 9 ∨ n = 10 ∨ n = 11 := by omega
        clear hn
        rcases hc with rfl | rfl | rfl | rfl | rfl | rfl | rfl | rfl | rfl | rfl | rfl | rfl
        · have HI : Hid (decR v p = ins p (0) (0) (0) (0)) := by
            show decR v p = _
            rw [HR.out]; simp [xs, xt, xd, xm, hasS, hasT, hasD, hasA, hasI, hasJ, lt, ltL]
          clear HR
          have f83 : hasB (lt 0) 83 = false := by decide
          have f84 : hasB (lt 0) 84 = false := by decide
          have f68 : hasB (lt 0) 68 = false := by decide
          have f97 : hasB (lt 0) 97 = false := by decide
          have f105 : hasB (lt 0) 105 = false := by decide
          have f106 : hasB (lt 0) 106 = false := by decide
          go_wp2_with (first | (go_at_call 32; refine (isOf_lt 0 (by decide) _ _).mono ?_; rintro e w' ⟨rfl, rfl⟩) | (go_at_call 78; refine (part_any v _ _ h0 h1 (by decide) (by decide) (by decide) (by decide) _).mono ?_; rintro e w' ⟨rfl, rfl⟩))
          exact bodyPost_ret (v := ins p (0) (0) (0) (0)) (by simp [results, Tryz.results50, go_sem, z0, z1, z2, z3, z4, hz3]) rfl ⟨p, Or.inl ⟨hp1, by omega, HX.out⟩, by rw [HI.out], by refine (fun (h : Below _ _ _) => Below.alloc h h.size _) ?_; repeat (first | exact b2 | refine Below.setCell ?_ (by simp) _)⟩
        · have HI : Hid (decR v p = ins p (0) (v / 65536 % 32) (v / 2048 % 32) (v / 64 % 32)) := by
            show decR v p = _
            rw [HR.out]; simp [xs, xt, xd, xm, hasS, hasT, hasD, hasA, hasI, hasJ, lt, ltL]
          clear HR
          have f83 : hasB (lt 1) 83 = false := by decide
          have f84 : hasB (lt 1) 84 = true := by decide
          have f68 : hasB (lt 1) 68 = true := by decide
          have f97 : hasB (lt 1) 97 = true := by decide
          have f105 : hasB (lt 1) 105 = false := by decide
          have f106 : hasB (lt 1) 106 = false := by decide
          go_wp2_with (first | (go_at_call 32; refine (isOf_lt 1 (by decide) _ _).mono ?_; rintro e w' ⟨rfl, rfl⟩) | (go_at_call 78; refine (part_any v _ _ h0 h1 (by decide) (by decide) (by decide) (by decide) _).mono ?_; rintro e w' ⟨rfl, rfl⟩))
          exact bodyPost_ret (v := ins p (0) (v / 65536 % 32) (v / 2048 % 32) (v / 64 % 32)) (by simp [results, Tryz.results50, go_sem, z0, z1, z2, z3, z4, hz3]) rfl ⟨p, Or.inl ⟨hp1, by omega, HX.out⟩, by rw [HI.out], by refine (fun (h : Below _ _ _) => Below.alloc h h.size _) ?_; repeat (first | exact b2 | refine Below.setCell ?_ (by simp) _)⟩
        · have HI : Hid (decR v p = ins p (v / 2097152 % 32) (v / 65536 % 32) (v / 2048 % 32) (0)) := by
            show decR v p = _
            rw [HR.out]; simp [xs, xt, xd, xm, hasS, hasT, hasD, hasA, hasI, hasJ, lt, ltL]
          clear HR
          have f83 : hasB (lt 2) 83 = true := by decide
          have f84 : hasB (lt 2) 84 = true := by decide
          have f68 : hasB (lt 2) 68 = true := by decide
          have f97 : hasB (lt 2) 97 = false := by decide
          have f105 : hasB (lt 2) 105 = false := by decide
          have f106 : hasB (lt 2) 106 = false := by decide
          go_wp2_with (first | (go_at_call 32; refine (isOf_lt 2 (by decide) _ _).mono ?_; rintro e w' ⟨rfl, rfl⟩) | (go_at_call 78; refine (part_any v _ _ h0 h1 (by decide) (by decide) (by decide) (by decide) _).mono ?_; rintro e w' ⟨rfl, rfl⟩))
          exact bodyPost_ret (v := ins p (v / 2097152 % 32) (v / 65536 % 32) (v / 2048 % 32) (0)) (by simp [results, Tryz.results50, go_sem, z0, z1, z2, z3, z4, hz3]) rfl ⟨p, Or.inl ⟨hp1, by omega, HX.out⟩, by rw [HI.out], by refine (fun (h : Below _ _ _) => Below.alloc h h.size _) ?_; repeat (first | exact b2 | refine Below.setCell ?_ (by simp) _)⟩
        · have HI : Hid (decR v p = ins p (v / 2097152 % 32) (0) (0) (0)) := by
            show decR v p = _
            rw [HR.out]; simp [xs, xt, xd, xm, hasS, hasT, hasD, hasA, hasI, hasJ, lt, ltL]
          clear HR
          have f83 : hasB (lt 3) 83 = true := by decide
          have f84 : hasB (lt 3) 84 = false := by decide
          have f68 : hasB (lt 3) 68 = false := by decide
          have f97 : hasB (lt 3) 97 = false := by decide
          have f105 : hasB (lt 3) 105 = false := by decide
          have f106 : hasB (lt 3) 106 = false := by decide
          go_wp2_with (first | (go_at_call 32; refine (isOf_lt 3 (by decide) _ _).mono ?_; rintro e w' ⟨rfl, rfl⟩) | (go_at_call 78; refine (part_any v _ _ h0 h1 (by decide) (by decide) (by decide) (by decide) _).mono ?_; rintro e w' ⟨rfl, rfl⟩))
          exact bodyPost_ret (v := ins p (v / 2097152 % 32) (0) (0) (0)) (by simp [results, Tryz.results50, go_sem, z0, z1, z2, z3, z4, hz3]) rfl ⟨p, Or.inl ⟨hp1, by omega, HX.out⟩, by rw [HI.out], by refine (fun (h : Below _ _ _) => Below.alloc h h.size _) ?_; repeat (first | exact b2 | refine Below.setCell ?_ (by simp) _)⟩
        · have HI : Hid (decR v p = ins p (v / 2097152 % 32) (0) (v / 2048 % 32) (0)) := by
            show decR v p = _
            rw [HR.out]; simp [xs, xt, xd, xm, hasS, hasT, hasD, hasA, hasI, hasJ, lt, ltL]
          clear HR
          have f83 : hasB (lt 4) 83 = true := by decide
          have f84 : hasB (lt 4) 84 = false := by decide
          have f68 : hasB (lt 4) 68 = true := by decide
          have f97 : hasB (lt 4) 97 = false := by decide
          have f105 : hasB (lt 4) 105 = false := by decide
          have f106 : hasB (lt 4) 106 = false := by decide
          go_wp2_with (first | (go_at_call 32; refine (isOf_lt 4 (by decide) _ _).mono ?_; rintro e w' ⟨rfl, rfl⟩) | (go_at_call 78; refine (part_any v _ _ h0 h1 (by decide) (by decide) (by decide) (by decide) _).mono ?_; rintro e w' ⟨rfl, rfl⟩))
          exact bodyPost_ret (v := ins p (v / 2097152 % 32) (0) (v / 2048 % 32) (0)) (by simp [results, Tryz.results50, go_sem, z0, z1, z2, z3, z4, hz3]) rfl ⟨p, Or.inl ⟨hp1, by omega, HX.out⟩, by rw [HI.out], by refine (fun (h : Below _ _ _) => Below.alloc h h.size _) ?_; repeat (first | exact b2 | refine Below.setCell ?_ (by simp) _)⟩
        · have HI : Hid (decR v p = ins p (0) (0) (v / 2048 % 32) (0)) := by
            show decR v p = _
            rw [HR.out]; simp [xs, xt, xd, xm, hasS, hasT, hasD, hasA, hasI, hasJ, lt, ltL]
          clear HR
          have f83 : hasB (lt 5) 83 = false := by decide
          have f84 : hasB (lt 5) 84 = false := by decide
          have f68 : hasB (lt 5) 68 = true := by decide
          have f97 : hasB (lt 5) 97 = false := by decide
          have f105 : hasB (lt 5) 105 = false := by decide
          have f106 : hasB (lt 5) 106 = false := by decide
          go_wp2_with (first | (go_at_call 32; refine (isOf_lt 5 (by decide) _ _).mono ?_; rintro e w' ⟨rfl, rfl⟩) | (go_at_call 78; refine (part_any v _ _ h0 h1 (by decide) (by decide) (by decide) (by decide) _).mono ?_; rintro e w' ⟨rfl, rfl⟩))
          exact bodyPost_ret (v := ins p (0) (0) (v / 2048 % 32) (0)) (by simp [results, Tryz.results50, go_sem, z0, z1, z2, z3, z4, hz3]) rfl ⟨p, Or.inl ⟨hp1, by omega, HX.out⟩, by rw [HI.out], by refine (fun (h : Below _ _ _) => Below.alloc h h.size _) ?_; repeat (first | exact b2 | refine Below.setCell ?_ (by simp) _)⟩
        · have HI : Hid (decR v p = ins p (v / 2097152 % 32) (v / 65536 % 32) (0) (0)) := by
            show decR v p = _
            rw [HR.out]; simp [xs, xt, xd, xm, hasS, hasT, hasD, hasA, hasI, hasJ, lt, ltL]
          clear HR
          have f83 : hasB (lt 6) 83 = true := by decide
          have f84 : hasB (lt 6) 84 = true := by decide
          have f68 : hasB (lt 6) 68 = false := by decide
          have f97 : hasB (lt 6) 97 = false := by decide
          have f105 : hasB (lt 6) 105 = false := by decide
          have f106 : hasB (lt 6) 106 = false := by decide
          go_wp2_with (first | (go_at_call 32; refine (isOf_lt 6 (by decide) _ _).mono ?_; rintro e w' ⟨rfl, rfl⟩) | (go_at_call 78; refine (part_any v _ _ h0 h1 (by decide) (by decide) (by decide) (by decide) _).mono ?_; rintro e w' ⟨rfl, rfl⟩))
          exact bodyPost_ret (v := ins p (v / 2097152 % 32) (v / 65536 % 32) (0) (0)) (by simp [results, Tryz.results50, go_sem, z0, z1, z2, z3, z4, hz3]) rfl ⟨p, Or.inl ⟨hp1, by omega, HX.out⟩, by rw [HI.out], by refine (fun (h : Below _ _ _) => Below.alloc h h.size _) ?_; repeat (first | exact b2 | refine Below.setCell ?_ (by simp) _)⟩
        · have HI : Hid (decR v p = ins p (0) (0) (0) (v % 67108864)) := by
            show decR v p = _
            rw [HR.out]; simp [xs, xt, xd, xm, hasS, hasT, hasD, hasJ, lt, ltL]
          clear HR
          have f83 : hasB (lt 7) 83 = false := by decide
          have f84 : hasB (lt 7) 84 = false := by decide
          have f68 : hasB (lt 7) 68 = false := by decide
          have f97 : hasB (lt 7) 97 = false := by decide
          have f105 : hasB (lt 7) 105 = false := by decide
          have f106 : hasB (lt 7) 106 = true := by decide
          go_wp2_with (first | (go_at_call 32; refine (isOf_lt 7 (by decide) _ _).mono ?_; rintro e w' ⟨rfl, rfl⟩) | (go_at_call 78; refine (part_any v _ _ h0 h1 (by decide) (by decide) (by decide) (by decide) _).mono ?_; rintro e w' ⟨rfl, rfl⟩))
          exact bodyPost_ret (v := ins p (0) (0) (0) (v % 67108864)) (by simp [results, Tryz.results50, go_sem, z0, z1, z2, z3, z4, hz3]) rfl ⟨p, Or.inl ⟨hp1, by omega, HX.out⟩, by rw [HI.out], by refine (fun (h : Below _ _ _) => Below.alloc h h.size _) ?_; repeat (first | exact b2 | refine Below.setCell ?_ (by simp) _)⟩
        · have HI : Hid (decR v p = ins p (v / 2097152 % 32) (v / 65536 % 32) (0) (v % 65536)) := by
            show decR v p = _
            rw [HR.out]; simp [xs, xt, xd, xm, hasS, hasT, hasD, hasI, hasJ, lt, ltL]
          clear HR
          have f83 : hasB (lt 8) 83 = true := by decide
          have f84 : hasB (lt 8) 84 = true := by decide
          have f68 : hasB (lt 8) 68 = false := by decide
          have f97 : hasB (lt 8) 97 = false := by decide
          have f105 : hasB (lt 8) 105 = true := by decide
          have f106 : hasB (lt 8) 106 = false := by decide
          go_wp2_with (first | (go_at_call 32; refine (isOf_lt 8 (by decide) _ _).mono ?_; rintro e w' ⟨rfl, rfl⟩) | (go_at_call 78; refine (part_any v _ _ h0 h1 (by decide) (by decide) (by decide) (by decide) _).mono ?_; rintro e w' ⟨rfl, rfl⟩))
          exact bodyPost_ret (v := ins p (v / 2097152 % 32) (v / 65536 % 32) (0) (v % 65536)) (by simp [results, Tryz.results50, go_sem, z0, z1, z2, z3, z4, hz3]) rfl ⟨p, Or.inl ⟨hp1, by omega, HX.out⟩, by rw [HI.out], by refine (fun (h : Below _ _ _) => Below.alloc h h.size _) ?_; repeat (first | exact b2 | refine Below.setCell ?_ (by simp) _)⟩
        · have HI : Hid (decR v p = ins p (v / 2097152 % 32) (0) (0) (v % 65536)) := by
            show decR v p = _
            rw [HR.out]; simp [xs, xt, xd, xm, hasS, hasT, hasD, hasI, hasJ, lt, ltL]
          clear HR
          have f83 : hasB (lt 9) 83 = true := by decide
          have f84 : hasB (lt 9) 84 = false := by decide
          have f68 : hasB (lt 9) 68 = false := by decide
          have f97 : hasB (lt 9) 97 = false := by decide
          have f105 : hasB (lt 9) 105 = true := by decide
          have f106 : hasB (lt 9) 106 = false := by decide
          go_wp2_with (first | (go_at_call 32; refine (isOf_lt 9 (by decide) _ _).mono ?_; rintro e w' ⟨rfl, rfl⟩) | (go_at_call 78; refine (part_any v _ _ h0 h1 (by decide) (by decide) (by decide) (by decide) _).mono ?_; rintro e w' ⟨rfl, rfl⟩))
          exact bodyPost_ret (v := ins p (v / 2097152 % 32) (0) (0) (v % 65536)) (by simp [results, Tryz.results50, go_sem, z0, z1, z2, z3, z4, hz3]) rfl ⟨p, Or.inl ⟨hp1, by omega, HX.out⟩, by rw [HI.out], by refine (fun (h : Below _ _ _) => Below.alloc h h.size _) ?_; repeat (first | exact b2 | refine Below.setCell ?_ (by simp) _)⟩
        · have HI : Hid (decR v p = ins p (0) (v / 65536 % 32) (0) (v % 65536)) := by
            show decR v p = _
            rw [HR.out]; simp [xs, xt, xd, xm, hasS, hasT, hasD, hasI, hasJ, lt, ltL]
          clear HR
          have f83 : hasB (lt 10) 83 = false := by decide
          have f84 : hasB (lt 10) 84 = true := by decide
          have f68 : hasB (lt 10) 68 = false := by decide
          have f97 : hasB (lt 10) 97 = false := by decide
          have f105 : hasB (lt 10) 105 = true := by decide
          have f106 : hasB (lt 10) 106 = false := by decide
          go_wp2_with (first | (go_at_call 32; refine (isOf_lt 10 (by decide) _ _).mono ?_; rintro e w' ⟨rfl, rfl⟩) | (go_at_call 78; refine (part_any v _ _ h0 h1 (by decide) (by decide) (by decide) (by decide) _).mono ?_; rintro e w' ⟨rfl, rfl⟩))
          exact bodyPost_ret (v := ins p (0) (v / 65536 % 32) (0) (v % 65536)) (by simp [results, Tryz.results50, go_sem, z0, z1, z2, z3, z4, hz3]) rfl ⟨p, Or.inl ⟨hp1, by omega, HX.out⟩, by rw [HI.out], by refine (fun (h : Below _ _ _) => Below.alloc h h.size _) ?_; repeat (first | exact b2 | refine Below.setCell ?_ (by simp) _)⟩
        · have HI : Hid (decR v p = ins p (0) (v / 65536 % 32) (v / 2048 % 32) (0)) := by
            show decR v p = _
            rw [HR.out]; simp [xs, xt, xd, xm, hasS, hasT, hasD, hasA, hasI, hasJ, lt, ltL]
          clear HR
          have f83 : hasB (lt 11) 83 = false := by decide
          have f84 : hasB (lt 11) 84 = true := by decide
          have f68 : hasB (lt 11) 68 = true := by decide
          have f97 : hasB (lt 11) 97 = false := by decide
          have f105 : hasB (lt 11) 105 = false := by decide
          have f106 : hasB (lt 11) 106 = false := by decide
          go_wp2_with (first | (go_at_call 32; refine (isOf_lt 11 (by decide) _ _).mono ?_; rintro e w' ⟨rfl, rfl⟩) | (go_at_call 78; refine (part_any v _ _ h0 h1 (by decide) (by decide) (by decide) (by decide) _).mono ?_; rintro e w' ⟨rfl, rfl⟩))
          exact bodyPost_ret (v := ins p (0) (v / 65536 % 32) (v / 2048 % 32) (0)) (by simp [results, Tryz.results50, go_sem, z0, z1, z2, z3, z4, hz3]) rfl ⟨p, Or.inl ⟨hp1, by omega, HX.out⟩, by rw [HI.out], by refine (fun (h : Below _ _ _) => Below.alloc h h.size _) ?_; repeat (first | exact b2 | refine Below.setCell ?_ (by simp) _)⟩
      · have hd : decide (xw p v = v) = false := by simpa using hx
        have HX : Hid (¬ xw p v = v) := hx
        clear hx
        have T2 := TabAt.stays HTb hb2
        go_wp2
        go_roundw
        case rel => exact ⟨p + 1, by omega, by omega, by go_num, fun j j1 j2 => by
          by_cases e : j = p
          · subst e; exact HX.out
          · exact HN.out j j1 (by omega), T2, Z2, b2, hz2⟩
        case measure => simp [intOf]; omega
    · have hp54 : p = 54 := by omega
      obtain ⟨z0, z1, z2, z3, z4, zf⟩ := HZ
      go_wp2
      exact bodyPost_ret (v := ins 0 0 0 0 0) (by simp [results, Tryz.results50, go_sem, z0, z1, z2, z3, z4]) rfl ⟨0, Or.inr ⟨rfl, fun j j1 j2 => HN.out j j1 (by omega)⟩, rfl, ((((hbr.setCell (by simp) _).setCell (by simp) _).setCell (by simp) _).setCell (by simp) _).setCell (by simp) _⟩
end Go.Proofs.YtccnliihdhnckaaGreatDoor
