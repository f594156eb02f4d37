/-
  The walk of RegionJoins.
-/
import Derived.Test.YtckcbnfobjmhpaaDoorStands
namespace Go.Proofs.YtckcbnfobjmhpaaDoor
open Go.RowKit Go.Maps
open Num
set_option linter.unusedVariables false
theorem kdAt_on {m : Nat → Int} {pc : Int} {a : Nat} (h0 : 0 ≤ pc) (h4 : pc % 4 = 0) (j : Nat) : wAt m (pc + 4 * a) j = wAt m pc (a + j) := by
  unfold wAt; congr 1; omega
theorem many_on {pc : Int} {a : Nat} (h0 : 0 ≤ pc) (h4 : pc % 4 = 0) : many (pc + 4 * a) = many pc - a := by
  unfold many; omega
theorem fE_ok {m : Nat → Int} {pc most : Int} (h0 : 1 ≤ most) (h1 : most ≤ 24) (h4 : pc % 4 = 0) (hp : pc < 16384) (h : 1 ≤ lenR (kdAt m pc) (many pc) most.toNat) : fE m pc most = 0 := by
  unfold fE fchk
  rw [if_neg (show ¬ _ by rw [if_neg (by omega), if_neg (by omega), if_neg (by omega)]; simp), if_neg (by omega)]
theorem fE_chk {m : Nat → Int} {pc most : Int} (h : fE m pc most = 0) : fchk pc most = 0 := by
  by_cases e : fchk pc most = 0
  · exact e
  · unfold fE at h; rw [if_pos e] at h; exact absurd h e
section
variable {w : World} {ps pa pf pk pb pn : Addr}
set_option maxRecDepth 100000 in
set_option maxHeartbeats 16000000 in
theorem joins_any (V : Vs ps pa pf pk pb pn w) {v : Value} {xs : List Int} (X : WordsIn w v xs) (hlen : (xs.length : Int) ≤ 9223372036854775807) (pc most : Int) (p0 : 0 ≤ pc) (p1 : pc < 4294967296) (o0 : -9223372036854775808 ≤ most) (o1 : most ≤ 9223372036854775807) :
    Calls Tryd.prog 8 #[v, .int .u32 pc, .int .i64 most] w fun e w' => e = .returned (.bool true) ∧ Below w.heap.size w w' := by
  obtain ⟨ao, cap, rfl, hcap, _⟩ := X.sh
  have hfo := formed_any V
  have XH : Hid (WordsIn w (.slice ao xs.length cap) xs) := X
  have VH : Hid (Vs ps pa pf pk pb pn w) := V
  clear X V
  go_enter Tryd.func8, Tryd.ntmps8
  go_wp2_with fail
  refine hfo.mono ?_
  rintro e w1 ⟨rfl, hb1⟩
  clear hfo
  by_cases t1 : 5000 < (xs.length : Int)
  · go_wp2
    go_ret
    exact ⟨rfl, hb1⟩
  by_cases t2 : most < 1
  · go_wp2
    go_ret
    exact ⟨rfl, hb1⟩
  by_cases t3 : 24 ≤ most
  · go_wp2
    go_ret
    exact ⟨rfl, hb1⟩
  have u1 : (xs.length : Int) ≤ 5000 := by omega
  have u2 : 1 ≤ most := by omega
  have u3 : most < 24 := by omega
  clear t1 t2 t3
  have hnw := new_ex (w := w1) (xs := xs) (v := .slice ao xs.length cap) (XH.out.stays hb1) (by omega)
  have hB1 : Hid (Below w.heap.size w w1) := hb1
  clear hb1
  go_wp2_with fail
  refine hnw.mono ?_
  rintro e w2 ⟨sb, bp, bw, bh, rfl, R, hb2, l1, l2⟩
  clear hnw l1 l2
  have hB2 : Hid (Below w.heap.size w w2) := hB1.out.trans (hb2.mono hB1.out.size)
  have RH : Hid _ := R
  have hXm : Hid (∀ W, Below w.heap.size w W → Calls Tryd.prog 24 #[.slice ao xs.length cap] W fun e w' => ∃ sb bp bw bh : Nat, e = .returned (.pointer (some ⟨sb, 0, none⟩)) ∧ RamIs w' sb bp bw bh 64 (mw xs) (fun _ => false) (fun _ => false) ∧ Below W.heap.size W w' ∧ W.heap.size ≤ bp ∧ W.heap.size ≤ bh) := fun W hW => new_ex (XH.out.stays hW) (by omega)
  generalize mw xs = m at *
  have hf := form_any (VH.out.stays hB2.out) R pc most p0 p1
  clear R hb2 hB1
  go_wp2_with fail
  refine hf.mono ?_
  rintro e w3 ⟨hb3, hres⟩
  clear hf
  have hB3 : Hid (Below w.heap.size w w3) := hB2.out.trans (hb3.mono hB2.out.size)
  have RH3 : Hid _ := RH.out.stays hb3 (Nat.le_refl _)
  clear hb3 RH hB2
  rcases hres with ⟨hE, rfl⟩ | ⟨hE, g, c, h, k, c2, rfl, RV⟩
  · generalize ferr ps pb pa pf pn (fE m pc most) = er at *
    have hA : Below w3.heap.size w3 (w3.alloc (.cells #[.int .u32 0, .slice none 0 0, .slice none 0 0] 51)) := (Below.refl _ _).alloc (Nat.le_refl _) _
    have hB4 : Hid (Below w.heap.size w _) := hB3.out.trans (hA.mono hB3.out.size)
    have hf2 := form_any (VH.out.stays hB4.out) (RH3.out.stays hA (Nat.le_refl _)) pc 24 p0 p1
    have z1 : (w3.alloc (.cells #[.int .u32 0, .slice none 0 0, .slice none 0 0] 51)).cell? ⟨w3.heap.size, 1, none⟩ = some (.slice none 0 0) := by simp
    clear hA
    go_wp2_with fail
    generalize w3.alloc (.cells #[.int .u32 0, .slice none 0 0, .slice none 0 0] 51) = w4 at *
    generalize w3.heap.size = rb at *
    refine hf2.mono ?_
    rintro e w5 ⟨hb5, hres2⟩
    have z2 := K.cell_stays hb5 (Nat.le_refl _) z1
    have hB5 : Hid (Below w.heap.size w w5) := hB4.out.trans (hb5.mono hB4.out.size)
    have hrb : rb < w5.heap.size := World.block_lt_of_cell? _ _ z2
    clear hf2 hb5 z1 hB4 RH3
    rcases hres2 with ⟨_, rfl⟩ | ⟨_, g2, cc2, h2, k2, d2, rfl, _⟩
    · generalize ferr ps pb pa pf pn (fE m pc 24) = er2 at *
      go_wp2
      go_ret
      exact ⟨rfl, hB5.out.alloc hB5.out.size _⟩
    · go_wp2
      go_ret
      exact ⟨rfl, hB5.out.alloc hB5.out.size _⟩
  · obtain ⟨_, _, p4, p2⟩ := fchk_ok (fE_chk hE)
    have hreg := lenR_reg (kdAt m pc) (many pc) most.toNat
    have hreg2 := lenR_reg (kdAt m pc) (many pc) (24 : Int).toNat
    have hmono := lenR_mono (kdAt m pc) (many pc) (most := most.toNat) (most' := (24 : Int).toNat) (by omega)
    have hjoin := fun (hlt : lenR (kdAt m pc) (many pc) most.toNat < lenR (kdAt m pc) (many pc) (24 : Int).toNat) => lenR_joins (kdAt m pc) (many pc) (most := most.toNat) (most' := (24 : Int).toNat) (by omega) (kdAt m (pc + 4 * (lenR (kdAt m pc) (many pc) most.toNat : Nat))) (fun j => by unfold kdAt; rw [kdAt_on p0 p4]) hlt
    have hpos := RV.pos
    have hE2 : fE m pc 24 = 0 := fE_ok (by omega) (by omega) p4 p2 (by omega)
    generalize lenR (kdAt m pc) (many pc) most.toNat = La at *
    have hLa24 : La ≤ 24 := by have := hreg.room; omega
    have hA : Below w3.heap.size w3 (w3.alloc (.cells #[.int .u32 pc, .slice (some ⟨g, 0, none⟩) La c, .slice (some ⟨h, 0, none⟩) k c2] 51)) := (Below.refl _ _).alloc (Nat.le_refl _) _
    have hB4 : Hid (Below w.heap.size w _) := hB3.out.trans (hA.mono hB3.out.size)
    have hf2 := form_any (VH.out.stays hB4.out) (RH3.out.stays hA (Nat.le_refl _)) pc 24 p0 p1
    rw [hE2] at hf2
    generalize hLbe : lenR (kdAt m pc) (many pc) (24 : Int).toNat = Lb at *
    have hLb24 : Lb ≤ 24 := by have := hreg2.room; omega
    have RH4 : Hid (RamIs _ sb bp bw bh 64 m (fun _ => false) (fun _ => false)) := RH3.out.stays hA (Nat.le_refl _)
    have RV4 : Hid (RegV _ pc m La g c h k c2) := RV.stays hA
    have VA4 : Hid (VarAt _ w3.heap.size pc La g c h k c2) := VarAt.alloc w3 pc La g c h k c2
    clear hA RV hB3 RH3
    go_wp2_with fail
    generalize w3.alloc (.cells #[.int .u32 pc, .slice (some ⟨g, 0, none⟩) La c, .slice (some ⟨h, 0, none⟩) k c2] 51) = w4 at *
    generalize w3.heap.size = ra at *
    refine hf2.mono ?_
    rintro e w5 ⟨hb5, ⟨hx, _⟩ | ⟨_, g2, cc2, h2, k2, d2, rfl, RV5⟩⟩
    · exact absurd rfl hx
    clear hf2
    have hA5 : Below w5.heap.size w5 (w5.alloc (.cells #[.int .u32 pc, .slice (some ⟨g2, 0, none⟩) Lb cc2, .slice (some ⟨h2, 0, none⟩) k2 d2] 51)) := (Below.refl _ _).alloc (Nat.le_refl _) _
    have hbA : Below w4.heap.size w4 _ := hb5.trans (hA5.mono hb5.size)
    have hB6 : Hid (Below w.heap.size w _) := hB4.out.trans (hbA.mono hB4.out.size)
    have RH6 : Hid (RamIs _ sb bp bw bh 64 m (fun _ => false) (fun _ => false)) := RH4.out.stays hbA (Nat.le_refl _)
    have RVa : Hid (RegV _ pc m La g c h k c2) := RV4.out.stays hbA
    have VAa : Hid (VarAt _ ra pc La g c h k c2) := VA4.out.stays hbA
    have RVb : Hid (RegV _ pc m Lb g2 cc2 h2 k2 d2) := RV5.stays hA5
    have VAb : Hid (VarAt _ w5.heap.size pc Lb g2 cc2 h2 k2 d2) := VarAt.alloc w5 pc Lb g2 cc2 h2 k2 d2
    have hra : ra < w5.heap.size := World.block_lt_of_cell? _ _ (VA4.out.stays hb5).q1
    have hra' : ra ≠ w5.heap.size := by omega
    have qa := (VA4.out.stays hb5).q1
    have hLa' : (La : Int) ≤ 24 := by omega
    have hLb' : (Lb : Int) ≤ 24 := by omega
    have hge : decide ((Lb : Int) < La) = false := by simp; omega
    clear hbA hA5 hb5 RV5 RV4 VA4 RH4 hB4
    by_cases heq : Lb = La
    · subst heq
      clear hjoin hmono
      go_wp2_with fail
      generalize w5.alloc (.cells #[.int .u32 pc, .slice (some ⟨g2, 0, none⟩) Lb cc2, .slice (some ⟨h2, 0, none⟩) k2 d2] 51) = w6 at *
      refine (sameIns_eq w6 g 0 g2 0 Lb c cc2 (wAt m pc) (by omega) RVa.out.ins RVb.out.ins).mono ?_
      rintro e w7 ⟨rfl, n7, rfl⟩
      go_wp2
      go_ret
      exact ⟨rfl, below_drewN hB6.out n7⟩
    · have hne : ((Lb : Int) == La) = false := by simp; omega
      obtain ⟨D, hD⟩ : ∃ D, Lb = La + D := ⟨Lb - La, by omega⟩
      have hj := hjoin (by omega)
      have hsub : (Lb : Int) - (La : Int) = (D : Int) := by omega
      have hD1 : 1 ≤ D := by omega
      have hmem := hreg2.mem
      have hpm : pc + 4 * (La : Int) < 16384 := by unfold many at hmem; omega
      rw [← many_on p0 p4] at hj
      have hreg3 := lenR_reg (kdAt m (pc + 4 * (La : Int))) (many (pc + 4 * (La : Int))) (24 : Int).toNat
      have hE3 : fE m (pc + 4 * (La : Int)) 24 = 0 := fE_ok (by omega) (by omega) (by omega) hpm (by omega)
      have hf3 := fun W (hW : Below w.heap.size w W) R => form_any (VH.out.stays hW) (R : RamIs W sb bp bw bh 64 m (fun _ => false) (fun _ => false)) (pc + 4 * (La : Int)) 24 (by omega) (by omega)
      rw [hE3] at hf3
      generalize hLce : lenR (kdAt m (pc + 4 * (La : Int))) (many (pc + 4 * (La : Int))) (24 : Int).toNat = Lc at *
      have hLc24 : Lc ≤ 24 := by have := hreg3.room; omega
      have hLc' : (Lc : Int) ≤ 24 := by omega
      have hlc3 : decide ((Lc : Int) < D) = false := by simp; omega
      have hle := fun W => len_any (w := W) pc (some ⟨g, 0, none⟩) La c (some ⟨h, 0, none⟩) k c2 (by omega)
      have q0 := VAa.out.q0
      have q1 := VAa.out.q1
      have q2 := VAa.out.q2
      have HD : Hid (Lb = La + D) := hD
      clear hjoin hmono hD
      go_wp2_with fail
      generalize w5.alloc (.cells #[.int .u32 pc, .slice (some ⟨g2, 0, none⟩) Lb cc2, .slice (some ⟨h2, 0, none⟩) k2 d2] 51) = w6 at *
      generalize w5.heap.size = rbb at *
      refine (hle _).mono ?_
      rintro e w7 ⟨rfl, hb7⟩
      clear hle
      have hB7 : Hid (Below w.heap.size w w7) := hB6.out.trans (hb7.mono hB6.out.size)
      have RH7 : Hid _ := RH6.out.stays hb7 (Nat.le_refl _)
      have RVa7 : Hid _ := RVa.out.stays hb7
      have VAa7 : Hid _ := VAa.out.stays hb7
      have RVb7 : Hid _ := RVb.out.stays hb7
      have VAb7 : Hid _ := VAb.out.stays hb7
      clear hb7 hB6 RH6 RVa VAa RVb VAb q0 q1 q2
      go_wp2_with fail
      refine (hf3 _ hB7.out RH7.out).mono ?_
      rintro e w8 ⟨hb8, ⟨hx, _⟩ | ⟨_, g3, cc3, h3, k3, d3, rfl, RV8⟩⟩
      · exact absurd rfl hx
      clear hf3
      have hA8 : Below w8.heap.size w8 (w8.alloc (.cells #[.int .u32 (pc + 4 * (La : Int)), .slice (some ⟨g3, 0, none⟩) Lc cc3, .slice (some ⟨h3, 0, none⟩) k3 d3] 51)) := (Below.refl _ _).alloc (Nat.le_refl _) _
      have hbA : Below w7.heap.size w7 _ := hb8.trans (hA8.mono hb8.size)
      have hB9 : Hid (Below w.heap.size w _) := hB7.out.trans (hbA.mono hB7.out.size)
      have RH9 : Hid (RamIs _ sb bp bw bh 64 m (fun _ => false) (fun _ => false)) := RH7.out.stays hbA (Nat.le_refl _)
      have RVa9 : Hid (RegV _ pc m La g c h k c2) := RVa7.out.stays hbA
      have VAa9 : Hid (VarAt _ ra pc La g c h k c2) := VAa7.out.stays hbA
      have RVb9 : Hid (RegV _ pc m Lb g2 cc2 h2 k2 d2) := RVb7.out.stays hbA
      have VAb9 : Hid (VarAt _ rbb pc Lb g2 cc2 h2 k2 d2) := VAb7.out.stays hbA
      have RVc9 : Hid (RegV _ (pc + 4 * (La : Int)) m Lc g3 cc3 h3 k3 d3) := RV8.stays hA8
      have VAc9 : Hid (VarAt _ w8.heap.size (pc + 4 * (La : Int)) Lc g3 cc3 h3 k3 d3) := VarAt.alloc w8 (pc + 4 * (La : Int)) Lc g3 cc3 h3 k3 d3
      have hra8 : ra < w8.heap.size := World.block_lt_of_cell? _ _ (VAa7.out.stays hb8).q1
      have hrb8 : rbb < w8.heap.size := World.block_lt_of_cell? _ _ (VAb7.out.stays hb8).q1
      have ra8 : ra ≠ w8.heap.size := by omega
      have rb8 : rbb ≠ w8.heap.size := by omega
      have qa8 := (VAa7.out.stays hb8).q1
      have qb8 := (VAb7.out.stays hb8).q1
      have hlcc := RVb9.out.lc
      have hlc3' := RVc9.out.lc
      have s1 : (D : Int) ≤ cc3 := by have := HD.out; omega
      have s2 : (La : Int) ≤ Lb := by omega
      have s3 : (Lb : Int) ≤ cc2 := by omega
      have s4 : (La : Int) ≤ cc2 := by omega
      have s5 : (D : Int) ≤ Lc := by have := HD.out; omega
      have hp0 : (0 : Int) < La := by omega
      have hp1 : 0 < La := by omega
      have hcn : ¬ cc2 = La := by have := HD.out; omega
      have hLD : Lb - La = D := by have := HD.out; omega
      have hw1 : IntKind.i64.wrap ((Lb : Int) - (La : Int)) = (D : Int) := by rw [IntKind.wrap_i64]; have := HD.out; omega
      have hw2 : IntKind.i64.wrap (D : Int) = (D : Int) := by rw [IntKind.wrap_i64]; have := HD.out; omega
      clear hbA hA8 hb8 RV8 RVa7 VAa7 RVb7 VAb7 RH7 hB7 qa
      go_upto_region 16 with fail
      generalize w8.alloc (.cells #[.int .u32 (pc + 4 * (La : Int)), .slice (some ⟨g3, 0, none⟩) Lc cc3, .slice (some ⟨h3, 0, none⟩) k3 d3] 51) = w9 at *
      generalize w8.heap.size = rc at *
      have hins0 := RVa9.out.ins 0 0 hpos (by omega)
      simp only [insC, List.getElem?_cons_zero, Nat.add_zero, Nat.zero_mul] at hins0
      have hk3 := hreg.trap 0 hpos
      change knd (wAt m pc 0) ≠ 3 at hk3
      have hki := fun W => K.kind_nat (decK (wAt m pc 0)) (decK_lt _) _ (kind_knd _) W
      have hkc := knd_in (wAt m pc 0)
      have IcH : Hid (InsAt w9 g3 0 (wAt m (pc + 4 * (La : Int))) D) := fun i q hi hq => RVc9.out.ins i q (by have := HD.out; omega) hq
      have IbH : Hid (InsAt w9 g2 (0 + La * 5) (wAt m (pc + 4 * (La : Int))) D) := by
        have := RVb9.out.ins.part La D (by have := HD.out; omega)
        intro i q hi hq
        rw [kdAt_on p0 p4]
        exact this i q hi hq
      generalize decK (wAt m pc 0) = i0 at *
      generalize knd (wAt m pc 0) = kd0 at *
      have hneq : ((⟨(Tab.kwL.getD kd0 []).toArray⟩ : ByteArray).toList == [116, 114, 97, 112]) = false := by
        rcases hkc with rfl | rfl | rfl | rfl | rfl
        · rw [show Tab.kwL.getD 1 [] = [115, 117, 109] from rfl]; simp [go_sem]
        · rw [show Tab.kwL.getD 2 [] = [98, 114, 97, 110, 99, 104] from rfl]; simp [go_sem]
        · exact absurd rfl hk3
        · rw [show Tab.kwL.getD 4 [] = [108, 111, 97, 100] from rfl]; simp [go_sem]
        · rw [show Tab.kwL.getD 5 [] = [115, 116, 111, 114, 101] from rfl]; simp [go_sem]
      generalize (⟨(Tab.kwL.getD kd0 []).toArray⟩ : ByteArray) = ss at *
      clear hkc hk3
      have hcC : ∀ W, Below w9.heap.size w9 W → W.cell? ⟨ra, 1, none⟩ = some (.slice (some ⟨g, 0, none⟩) La c) ∧ W.cell? ⟨rbb, 1, none⟩ = some (.slice (some ⟨g2, 0, none⟩) Lb cc2) ∧ W.cell? ⟨rc, 1, none⟩ = some (.slice (some ⟨g3, 0, none⟩) Lc cc3) ∧ W.cell? ⟨g, 0, none⟩ = some (.int .i64 i0) := fun W h =>
        ⟨K.cell_stays h (Nat.le_refl _) VAa9.out.q1, K.cell_stays h (Nat.le_refl _) VAb9.out.q1, K.cell_stays h (Nat.le_refl _) VAc9.out.q1, K.cell_stays h (Nat.le_refl _) hins0⟩
      have hC9 : Hid _ := hcC _ (Below.refl _ _).drew
      have hcH : Hid _ := hcC
      clear hcC hins0
      refine wp_region_phase 36 [(0, 0), (1, 1), (2, 0), (3, 1), (4, 0), (5, 0), (6, 1), (7, 0), (8, 0), (9, 0), (10, 0), (11, 1), (12, 0), (13, 1), (14, 0), (15, 0), (16, 2), (17, 0), (18, 0), (19, 1), (20, 0), (21, 0), (22, 1), (23, 2), (24, 0), (25, 0), (26, 0), (27, 0), (29, 0), (28, 2), (30, 2), (31, 2), (32, 2), (33, 0), (34, 0), (35, 0)] (fun W => W.cell? ⟨ra, 1, none⟩ = some (.slice (some ⟨g, 0, none⟩) La c) ∧ W.cell? ⟨rbb, 1, none⟩ = some (.slice (some ⟨g2, 0, none⟩) Lb cc2) ∧ W.cell? ⟨rc, 1, none⟩ = some (.slice (some ⟨g3, 0, none⟩) Lc cc3) ∧ W.cell? ⟨g, 0, none⟩ = some (.int .i64 i0)) (by kernel_rfl) (by kernel_rfl) (fun _ _ _ d _ h => by cases d <;> exact h) hC9.out ?_
      repeat (first | (refine wpPlanZ_free (by rfl) (by rfl) (fun W => by (go_simp; try with_reducible rfl)) (fun K hK => ?_); go_simp; refine hK _ ?_; clear hK K) | (refine wpPlanZ_quiet (by rfl) (by rfl) (fun W hW => by (obtain ⟨c0, c1, c2, c3⟩ := hW; go_simp; try with_reducible rfl)) (fun K hK => ?_); go_simp; refine hK _ ?_; clear hK K))
      refine wpPlanZ_serial (by rfl) (by rfl) (fun K hK => ?_)
      go_simp
      have hsm := sameIns_eq w9.drew g3 0 g2 (0 + La * 5) D cc3 (cc2 - La) (wAt m (pc + 4 * (La : Int))) (by have := HD.out; omega) IcH.out IbH.out
      rw [Nat.zero_add] at hsm
      refine hsm.mono ?_
      rintro e w10 ⟨rfl, n10, rfl⟩
      have hb10 : Below w9.heap.size w9 (w9.drew.drewN n10) := below_drewN (Below.refl _ _).drew n10
      have hC10 : Hid _ := hcH.out _ hb10
      have hcH10 : Hid (∀ W, Below (w9.drew.drewN n10).heap.size (w9.drew.drewN n10) W → _) := fun W h => hcH.out W (hb10.trans (h.mono hb10.size))
      have hB10 : Hid (Below w.heap.size w (w9.drew.drewN n10)) := hB9.out.trans (hb10.mono hB9.out.size)
      have RH10 : Hid (RamIs (w9.drew.drewN n10) sb bp bw bh 64 m (fun _ => false) (fun _ => false)) := RH9.out.stays hb10 (Nat.le_refl _)
      refine hK _ _ (fun _ => hC10.out) ?_
      clear hK K hsm IcH IbH hb10 hcH hC9
      generalize w9.drew.drewN n10 = w10 at *
      repeat (first | (refine wpPlanZ_free (by rfl) (by rfl) (fun W => by (go_simp; try with_reducible rfl)) (fun K hK => ?_); go_simp; refine hK _ ?_; clear hK K) | (refine wpPlanZ_quiet (by rfl) (by rfl) (fun W hW => by (obtain ⟨c0, c1, c2, c3⟩ := hW; go_simp; try with_reducible rfl)) (fun K hK => ?_); go_simp; refine hK _ ?_; clear hK K))
      refine wpPlanZ_serial (by rfl) (by rfl) (fun K hK => ?_)
      go_simp
      refine (hki _).mono ?_
      rintro e wk ⟨rfl, hwk⟩
      rw [hwk]; clear hwk wk hki
      refine hK _ _ (fun _ => hC10.out) ?_
      clear hK K
      repeat (first | (refine wpPlanZ_free (by rfl) (by rfl) (fun W => by (go_simp; try with_reducible rfl)) (fun K hK => ?_); go_simp; refine hK _ ?_; clear hK K) | (refine wpPlanZ_quiet (by rfl) (by rfl) (fun W hW => by (obtain ⟨c0, c1, c2, c3⟩ := hW; go_simp; try with_reducible rfl)) (fun K hK => ?_); go_simp; refine hK _ ?_; clear hK K))
      refine wpPlanZ_serial (by rfl) (by rfl) (fun K hK => ?_)
      go_simp
      refine (words_at RH10.out).mono ?_
      rintro e w11 ⟨gw, rfl, WA, hb11, _⟩
      have WAH : Hid (WordsAt w11 gw m) := WA
      have hcH11 : Hid (∀ W, Below w11.heap.size w11 W → _) := fun W h => hcH10.out W (hb11.trans (h.mono hb11.size))
      have hB11 : Hid (Below w.heap.size w w11) := hB10.out.trans (hb11.mono hB10.out.size)
      refine hK _ _ (fun _ => hcH10.out _ hb11) ?_
      clear hK K WA hb11 RH10 hcH10 hC10 hB10
      refine wpPlanZ_serial (by rfl) (by rfl) (fun K hK => ?_)
      go_simp
      refine (hXm.out _ hB11.out).mono ?_
      rintro e w12 ⟨sb2, bp2, bw2, bh2, rfl, R12, hb12, _, _⟩
      have WAH2 : Hid (WordsAt w12 gw m) := WAH.out.stays hb12
      have R12H : Hid _ := R12
      have hcH12 : Hid (∀ W, Below w12.heap.size w12 W → _) := fun W h => hcH11.out W (hb12.trans (h.mono hb12.size))
      have hB12 : Hid (Below w.heap.size w w12) := hB11.out.trans (hb12.mono hB11.out.size)
      refine hK _ _ (fun _ => hcH11.out _ hb12) ?_
      clear hK K R12 hb12 hcH11 hB11 WAH
      refine wpPlanZ_serial (by rfl) (by rfl) (fun K hK => ?_)
      go_simp
      refine (words_at R12H.out).mono ?_
      rintro e w13 ⟨gw2, rfl, WA, hb13, _⟩
      have WA2 : Hid (WordsAt w13 gw2 m) := WA
      have WA1 : Hid (WordsAt w13 gw m) := WAH2.out.stays hb13
      have hcH13 : Hid (∀ W, Below w13.heap.size w13 W → _) := fun W h => hcH12.out W (hb13.trans (h.mono hb13.size))
      have hB13 : Hid (Below w.heap.size w w13) := hB12.out.trans (hb13.mono hB12.out.size)
      refine hK _ _ (fun _ => hcH12.out _ hb13) ?_
      clear hK K WA hb13 hcH12 hB12 WAH2 R12H
      refine wpPlanZ_serial (by rfl) (by rfl) (fun K hK => ?_)
      go_simp
      refine (alike_at WA1.out WA2.out).mono ?_
      rintro e w14 ⟨rfl, n14, rfl⟩
      refine hK _ _ (fun _ => hcH13.out _ (below_drewN (Below.refl _ _) n14)) ?_
      clear hK K hcH13 WA1 WA2
      repeat (first | (refine wpPlanZ_free (by rfl) (by rfl) (fun W => by (go_simp; try with_reducible rfl)) (fun K hK => ?_); go_simp; refine hK _ ?_; clear hK K) | (refine wpPlanZ_quiet (by rfl) (by rfl) (fun W hW => by (obtain ⟨c0, c1, c2, c3⟩ := hW; go_simp; try with_reducible rfl)) (fun K hK => ?_); go_simp; refine hK _ ?_; clear hK K))
      refine wpPlanZ_nil ?_
      go_wp2
      go_ret
      exact ⟨rfl, below_drewN hB13.out n14⟩
end
end Go.Proofs.YtckcbnfobjmhpaaDoor
