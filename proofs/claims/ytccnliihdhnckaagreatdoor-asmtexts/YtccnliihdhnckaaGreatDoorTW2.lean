/-
  The walk of AsmTexts, on the contract of the document's answer's ParseOf.
-/
import Derived.Test.YtccnliihdhnckaaGreatDoorTW1
import Derived.Deep.Cut
import Derived.Deep.CutRange
namespace Go.Proofs.YtccnliihdhnckaaGreatDoor
open Go.RowKit Go.Shelf Go.Joins
open Num Tab Fm Txt
set_option linter.unusedVariables false
/-- an instruction that is read is within an int's bounds -/
theorem ok_rng {k : Nat} {f : F} (h : okF k f) (hk : k < 54) : (-9223372036854775808 ≤ f.s ∧ f.s ≤ 9223372036854775807) ∧ (-9223372036854775808 ≤ f.t ∧ f.t ≤ 9223372036854775807) ∧ (-9223372036854775808 ≤ f.d ∧ f.d ≤ 9223372036854775807) ∧ 0 ≤ f.m ∧ f.m < 4294967296 := by
  obtain ⟨a, b, c, d, e⟩ := ok_parts k f h
  have W : ∀ (n : Int) (b : Bool), well n b = true → -9223372036854775808 ≤ n ∧ n ≤ 9223372036854775807 := by
    intro n b h
    unfold well at h
    simp only [Bool.or_eq_true, Bool.and_eq_true, decide_eq_true_eq] at h
    omega
  have htop : ∀ k, k < 54 → top (sh k) ≤ 67108863 := by decide
  have := htop k hk
  exact ⟨W _ _ a, W _ _ b, W _ _ c, e, by omega⟩
theorem ptext_len (k : Nat) (hk : k < 54) (f : F) (h : okF k f) : (ptext k f).length ≤ 600 := by
  obtain ⟨⟨a, b⟩, ⟨c, d⟩, ⟨e, g⟩, i, j⟩ := ok_rng h hk
  unfold ptext
  rw [List.length_append]
  have h1 : ((form k).flatMap (rend f)).length ≤ 21 * (form k).length := rend_len f.s f.t f.d f.m a b c d e g i j (form k)
  have h2 := form_len k hk
  omega
theorem prV_of {S : Nat → Addr} {l : List UInt8} {k : Nat} {f : F} (h : parseS l = .ok k f) : prV S l = .tuple #[ins k f.s f.t f.d f.m, .nilIface] := by unfold prV; rw [h]
theorem poV_of {l : List UInt8} {k : Nat} {f : F} (h : parseS l = .ok k f) : poV l = .tuple #[ins k f.s f.t f.d f.m, .int .i64 0] := by unfold poV; rw [h]
/-- a text that is none -/
theorem pr_bad (S : Nat → Addr) (l : List UInt8) (h : ∀ k f, parseS l ≠ .ok k f) : ∃ (j : Nat) (c : Int), j < 10 ∧ (j : Int) + 1 = c ∧ prV S l = .tuple #[ins 0 0 0 0 0, .iface 210 (.pointer (some (S j)))] ∧ poV l = .tuple #[ins 0 0 0 0 0, .int .i64 c] := by
  cases hp : parseS l with
  | name => exact ⟨4, 5, by omega, by omega, by unfold prV; rw [hp], by unfold poV; rw [hp]⟩
  | text => exact ⟨0, 1, by omega, by omega, by unfold prV; rw [hp], by unfold poV; rw [hp]⟩
  | bound => exact ⟨1, 2, by omega, by omega, by unfold prV; rw [hp], by unfold poV; rw [hp]⟩
  | ok k f => exact absurd hp (h k f)
set_option maxRecDepth 10000 in
set_option maxHeartbeats 4000000 in
theorem asmTexts_of (PO : ∀ (l : List UInt8) (hl : l.length ≤ 1000) (w : World), Calls Tryz.prog 13 #[.string ⟨l.toArray⟩] w fun e w' => e = .returned (poV l) ∧ Below w.heap.size w w')
    (S : Nat → Addr) (o s t d m : Int) (m0 : 0 ≤ m) (m1 : m < 4294967296) (s0 : -9223372036854775808 ≤ s) (s1 : s ≤ 9223372036854775807) (t0 : -9223372036854775808 ≤ t) (t1 : t ≤ 9223372036854775807) (d0 : -9223372036854775808 ≤ d) (d1 : d ≤ 9223372036854775807) (l : List UInt8) (hl : (l.length : Int) ≤ 9223372036854775807) (w : World) (EE : Errs S w) (T : Tb (S 3) (S 1) w) (L : Lb w) :
    Calls Tryz.prog 3 #[ins o s t d m, .string ⟨l.toArray⟩] w fun e w' => e = .returned (.bool true) ∧ Below w.heap.size w w' := by
  have POH : Hid (∀ (l : List UInt8) (hl : l.length ≤ 1000) (w : World), Calls Tryz.prog 13 #[.string ⟨l.toArray⟩] w fun e w' => e = .returned (poV l) ∧ Below w.heap.size w w') := PO
  have I0 := IAt.alloc w o s t d m
  have E0 : TI S w (w.alloc (.cells #[.int .i64 o, .int .i64 s, .int .i64 t, .int .i64 d, .int .u32 m] 24)) := (TI.mk EE T L (Below.refl _ _) : TI S w w).alloc _
  obtain ⟨x, ev, c, z, HTx, HEn, HCo, hcase⟩ := text_all S o s t d m m0 m1 s0 s1 t0 t1 d0 d1
  have HTx : Hid (∀ w, Tb (S 3) (S 1) w → Lb w → Calls Tryz.prog 8 #[ins o s t d m] w fun e w' => e = .returned (.tuple #[.string ⟨x.toArray⟩, ev]) ∧ Below w.heap.size w w') := HTx
  have HEn : Hid (∀ w, Calls Tryz.prog 9 #[ins o s t d m] w fun e w' => e = .returned (.tuple #[.int .u32 z, .int .i64 c]) ∧ Below w.heap.size w w') := HEn
  have HCo : Hid (∀ w, Errs S w → Calls Tryz.prog 10 #[ev, .int .i64 c] w fun e w' => e = .returned (.bool true) ∧ Below w.heap.size w w') := HCo
  have HCA : Hid ((c = 0 ∧ ∃ k : Nat, o = k ∧ 1 ≤ k ∧ k < 54 ∧ okB (sh k) s t d m = true ∧ x = ptext k ⟨s, t, d, m⟩) ∨ (0 < c ∧ x = [])) := hcase
  clear EE T L PO hcase
  go_enter Tryz.func3, Tryz.ntmps3
  go_wp2_with fail
  generalize w.alloc (.cells #[.int .i64 o, .int .i64 s, .int .i64 t, .int .i64 d, .int .u32 m] 24) = W0 at I0 E0 ⊢
  refine (texted_any (S 3) (S 1) _ E0.tb E0.lb).mono ?_
  rintro e w1 ⟨rfl, hb1⟩
  have E1 := E0.grow hb1
  have I1 := I0.stays hb1 (Nat.le_refl _)
  clear E0 I0 hb1
  by_cases hlen : 60 < (l.length : Int)
  · go_wp2
    go_ret
    exact ⟨rfl, E1.bel⟩
  have hlen' : (l.length : Int) ≤ 60 := by omega
  clear hlen
  obtain ⟨a0, a1, a2, a3, a4⟩ := I1
  have I1 : IAt w.heap.size w1 o s t d m := ⟨a0, a1, a2, a3, a4⟩
  have hz1 : w.heap.size < w1.heap.size := cell_lt a0
  go_wp2_with fail
  refine (HTx.out _ E1.tb E1.lb).mono ?_
  rintro e w2 ⟨rfl, hb2⟩
  have E2 := E1.grow hb2
  have I2 := I1.stays hb2 (Nat.le_refl _)
  clear E1 I1 hb2 a0 a1 a2 a3 a4 hz1
  obtain ⟨a0, a1, a2, a3, a4⟩ := I2
  have I2 : IAt w.heap.size w2 o s t d m := ⟨a0, a1, a2, a3, a4⟩
  go_wp2_with fail
  refine (HEn.out _).mono ?_
  rintro e w3 ⟨rfl, hb3⟩
  have E3 := E2.grow hb3
  have I3 := I2.stays hb3 (Nat.le_refl _)
  clear E2 I2 hb3 a0 a1 a2 a3 a4 HEn HTx
  go_wp2_with fail
  refine (HCo.out _ E3.er).mono ?_
  rintro e w4 ⟨rfl, hb4⟩
  have E4 := E3.grow hb4
  have I4 := I3.stays hb4 (Nat.le_refl _)
  clear E3 I3 hb4 HCo
  go_upto_if 38 with fail
  have E4H : Hid (TI S w w4) := E4
  have I4H : Hid (IAt w.heap.size w4 o s t d m) := I4
  clear E4 I4
  go_cut [5] from 14 to 91 (fun _ wx => TI S w wx)
  case first =>
    rcases HCA.out with ⟨rfl, k, rfl, k1, k2, hok, rfl⟩ | ⟨hc, rfl⟩
    · have hf : okF k ⟨s, t, d, m⟩ := ⟨hok, m0⟩
      have hp := parse_any S (ptext k ⟨s, t, d, m⟩) (by have := ptext_len k k2 _ hf; omega) w4 E4H.out.er E4H.out.lb
      rw [prV_of (parse_text k k1 k2 ⟨s, t, d, m⟩ hf)] at hp
      have HTO : Hid (∀ w, Calls Tryz.prog 12 #[ins k s t d m] w fun e w' => e = .returned (.string ⟨(ptext k ⟨s, t, d, m⟩).toArray⟩) ∧ Below w.heap.size w w') := fun w => textOf_all k k1 k2 s t d m hok m0 w
      clear HCA hf
      generalize ptext k ⟨s, t, d, m⟩ = y at *
      go_wp2_with fail
      refine hp.mono ?_
      rintro e w5 ⟨rfl, hb5⟩
      have E5 := E4H.out.grow hb5
      have I5 := I4H.out.stays hb5 (Nat.le_refl _)
      have E6 : Hid (TI S w (w5.alloc (.cells #[.int .i64 k, .int .i64 s, .int .i64 t, .int .i64 d, .int .u32 m] 24))) := E5.alloc _
      have I6 := I5.stays ((Below.refl w5.heap.size w5).alloc (Nat.le_refl _) (.cells #[.int .i64 k, .int .i64 s, .int .i64 t, .int .i64 d, .int .u32 m] 24)) (Nat.le_refl _)
      have J6 := IAt.alloc w5 k s t d m
      clear hp hb5 E5 I5 E4H I4H
      go_upto_region 12 with fail
      generalize w5.alloc (.cells #[.int .i64 k, .int .i64 s, .int .i64 t, .int .i64 d, .int .u32 m] 24) = w6 at E6 I6 J6 ⊢
      obtain ⟨a0, a1, a2, a3, a4⟩ := I6
      have I6 : Hid (IAt w.heap.size w6 k s t d m) := ⟨a0, a1, a2, a3, a4⟩
      go_wp2_with fail
      refine (HTO.out _).mono ?_
      rintro e w7 ⟨rfl, hb7⟩
      have E7 := E6.out.grow hb7
      obtain ⟨b0, b1, b2, b3, b4⟩ := I6.out.stays hb7 (Nat.le_refl _)
      obtain ⟨c0, c1, c2, c3, c4⟩ := J6.stays hb7 (Nat.le_refl _)
      clear hb7 E6 I6 J6 a0 a1 a2 a3 a4 HTO
      go_wp2
      go_meet
      exact E7
    · have hc' : ¬ c = 0 := by omega
      clear HCA
      go_wp2
      go_meet
      exact E4H.out
  case rest =>
    have E5 := hcut
    clear hcut E4H I4H HCA
    have hl60 : l.length ≤ 1000 := by omega
    have hp := parse_any S l (by omega) wc E5.er E5.lb
    have HPO : Hid (∀ w, Calls Tryz.prog 13 #[.string ⟨l.toArray⟩] w fun e w' => e = .returned (poV l) ∧ Below w.heap.size w w') := fun w => POH.out l hl60 w
    clear POH
    by_cases hex : ∃ k f, parseS l = .ok k f
    · obtain ⟨k, f, hpr⟩ := hex
      obtain ⟨k1, k2, hok, hpt⟩ := parse_ok l k f hpr
      obtain ⟨⟨f0, f1⟩, ⟨f2, f3⟩, ⟨f4, f5⟩, f6, f7⟩ := ok_rng hok k2
      have HTX : Hid (∀ w, Tb (S 3) (S 1) w → Lb w → Calls Tryz.prog 8 #[ins k f.s f.t f.d f.m] w fun e w' => e = .returned (.tuple #[.string ⟨l.toArray⟩, .nilIface]) ∧ Below w.heap.size w w') := by
        intro w T b
        have := text_ok (S 3) (S 1) k k1 k2 f.s f.t f.d f.m f6 f7 f0 f1 f2 f3 f4 f5 hok.1 w T b
        rwa [show (⟨f.s, f.t, f.d, f.m⟩ : F) = f from rfl, hpt] at this
      rw [prV_of hpr] at hp
      rw [poV_of hpr] at HPO
      clear hpr hok hpt
      have HPO : Hid (∀ w, Calls Tryz.prog 13 #[.string ⟨l.toArray⟩] w fun e w' => e = .returned (.tuple #[ins k f.s f.t f.d f.m, .int .i64 0]) ∧ Below w.heap.size w w') := HPO
      have E5H : Hid (TI S w wc) := E5
      clear E5
      go_wp2_with fail
      refine hp.mono ?_
      rintro e w6 ⟨rfl, hb6⟩
      have E7 : Hid (TI S w (w6.alloc (.cells #[.int .i64 k, .int .i64 f.s, .int .i64 f.t, .int .i64 f.d, .int .u32 f.m] 24))) := (E5H.out.grow hb6).alloc _
      have J7 := IAt.alloc w6 k f.s f.t f.d f.m
      clear hp hb6 E5H
      go_upto_region 15 with fail
      generalize w6.alloc (.cells #[.int .i64 k, .int .i64 f.s, .int .i64 f.t, .int .i64 f.d, .int .u32 f.m] 24) = w7 at E7 J7 ⊢
      have J7 : Hid (IAt w6.heap.size w7 k f.s f.t f.d f.m) := J7
      go_wp2_with fail
      refine (HPO.out _).mono ?_
      rintro e w8 ⟨rfl, hb8⟩
      have J8 := J7.out.stays hb8 (Nat.le_refl _)
      have J9 : Hid (IAt w6.heap.size (w8.alloc (.cells #[.int .i64 k, .int .i64 f.s, .int .i64 f.t, .int .i64 f.d, .int .u32 f.m] 24)) k f.s f.t f.d f.m) := J8.stays ((Below.refl w8.heap.size w8).alloc (Nat.le_refl _) _) (Nat.le_refl _)
      have E9 : Hid (TI S w (w8.alloc (.cells #[.int .i64 k, .int .i64 f.s, .int .i64 f.t, .int .i64 f.d, .int .u32 f.m] 24))) := (E7.out.grow hb8).alloc _
      have K9 : Hid (IAt w8.heap.size (w8.alloc (.cells #[.int .i64 k, .int .i64 f.s, .int .i64 f.t, .int .i64 f.d, .int .u32 f.m] 24)) k f.s f.t f.d f.m) := IAt.alloc w8 k f.s f.t f.d f.m
      clear J8 hb8 E7 J7 HPO
      go_upto_region 16 with fail
      generalize w8.alloc (.cells #[.int .i64 k, .int .i64 f.s, .int .i64 f.t, .int .i64 f.d, .int .u32 f.m] 24) = w9 at E9 J9 K9 ⊢
      go_wp2_with fail
      refine (coded_nil _).mono ?_
      rintro e w10 ⟨rfl, rfl⟩
      obtain ⟨b0, b1, b2, b3, b4⟩ := J9.out
      obtain ⟨c0, c1, c2, c3, c4⟩ := K9.out
      clear J9 K9
      go_wp2_with fail
      refine (HTX.out _ E9.out.tb E9.out.lb).mono ?_
      rintro e w11 ⟨rfl, hb11⟩
      have E11 := (E9.out.grow hb11).bel
      clear E9 hb11 HTX b0 b1 b2 b3 b4 c0 c1 c2 c3 c4
      go_wp2
      go_ret
      exact ⟨by simp, E11⟩
    · obtain ⟨j, c5, hj, hc5, hpv, hpo⟩ := pr_bad S l (fun k f h => hex ⟨k, f, h⟩)
      rw [hpv] at hp
      rw [hpo] at HPO
      clear hex hpv hpo
      have HPO : Hid (∀ w, Calls Tryz.prog 13 #[.string ⟨l.toArray⟩] w fun e w' => e = .returned (.tuple #[ins 0 0 0 0 0, .int .i64 c5]) ∧ Below w.heap.size w w') := HPO
      have E5H : Hid (TI S w wc) := E5
      clear E5
      go_wp2_with fail
      refine hp.mono ?_
      rintro e w6 ⟨rfl, hb6⟩
      have E7 : Hid (TI S w (w6.alloc (.cells #[.int .i64 0, .int .i64 0, .int .i64 0, .int .i64 0, .int .u32 0] 24))) := (E5H.out.grow hb6).alloc _
      have J7 := IAt.alloc w6 0 0 0 0 0
      clear hp hb6 E5H
      go_upto_region 15 with fail
      generalize w6.alloc (.cells #[.int .i64 0, .int .i64 0, .int .i64 0, .int .i64 0, .int .u32 0] 24) = w7 at E7 J7 ⊢
      have J7 : Hid (IAt w6.heap.size w7 0 0 0 0 0) := J7
      go_wp2_with fail
      refine (HPO.out _).mono ?_
      rintro e w8 ⟨rfl, hb8⟩
      have J8 := J7.out.stays hb8 (Nat.le_refl _)
      have J9 : Hid (IAt w6.heap.size (w8.alloc (.cells #[.int .i64 0, .int .i64 0, .int .i64 0, .int .i64 0, .int .u32 0] 24)) 0 0 0 0 0) := J8.stays ((Below.refl w8.heap.size w8).alloc (Nat.le_refl _) _) (Nat.le_refl _)
      have E9 : Hid (TI S w (w8.alloc (.cells #[.int .i64 0, .int .i64 0, .int .i64 0, .int .i64 0, .int .u32 0] 24))) := (E7.out.grow hb8).alloc _
      have K9 : Hid (IAt w8.heap.size (w8.alloc (.cells #[.int .i64 0, .int .i64 0, .int .i64 0, .int .i64 0, .int .u32 0] 24)) 0 0 0 0 0) := IAt.alloc w8 0 0 0 0 0
      clear J8 hb8 E7 J7 HPO
      go_upto_region 16 with fail
      generalize w8.alloc (.cells #[.int .i64 0, .int .i64 0, .int .i64 0, .int .i64 0, .int .u32 0] 24) = w9 at E9 J9 K9 ⊢
      have hcd := coded_at S j hj c5 hc5 w9 E9.out.er
      have hc6 : 0 < c5 := by omega
      clear hc5
      go_wp2_with fail
      refine hcd.mono ?_
      rintro e w10 ⟨rfl, hb10⟩
      have E10 := (E9.out.grow hb10).bel
      obtain ⟨b0, b1, b2, b3, b4⟩ := J9.out.stays hb10 (Nat.le_refl _)
      obtain ⟨c0, c1, c2, c3, c4⟩ := K9.out.stays hb10 (Nat.le_refl _)
      clear J9 K9 hcd hb10 E9
      go_wp2
      go_ret
      exact ⟨rfl, E10⟩
end Go.Proofs.YtccnliihdhnckaaGreatDoor
