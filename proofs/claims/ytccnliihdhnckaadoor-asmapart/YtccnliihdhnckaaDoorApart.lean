/-
  The walk of AsmApart, whole.
-/
import Derived.Test.YtccnliihdhnckaaDoorApartWalk
namespace Go.Proofs.YtccnliihdhnckaaDoor
open Go.RowKit Go.Shelf Go.Joins
open Num Tab Fm Txt
set_option linter.unusedVariables false
structure IAt (B : Nat) (w : World) (o s t d m : Int) : Prop where
  i0 : w.cell? ⟨B, 0, none⟩ = some (.int .i64 o)
  i1 : w.cell? ⟨B, 1, none⟩ = some (.int .i64 s)
  i2 : w.cell? ⟨B, 2, none⟩ = some (.int .i64 t)
  i3 : w.cell? ⟨B, 3, none⟩ = some (.int .i64 d)
  i4 : w.cell? ⟨B, 4, none⟩ = some (.int .u32 m)
theorem IAt.stays {B C : Nat} {w w' : World} {o s t d m : Int} (z : IAt B w o s t d m) (h : Below C w w') (hC : w.heap.size ≤ C) : IAt B w' o s t d m :=
  ⟨cell_stays h hC z.i0, cell_stays h hC z.i1, cell_stays h hC z.i2, cell_stays h hC z.i3, cell_stays h hC z.i4⟩
theorem IAt.alloc (w : World) (o s t d m : Int) : IAt w.heap.size (w.alloc (.cells #[.int .i64 o, .int .i64 s, .int .i64 t, .int .i64 d, .int .u32 m] 24)) o s t d m :=
  ⟨by simp, by simp, by simp, by simp, by simp⟩
/-- what stands in the memory: two instructions; the program's variables -/
structure AInv (pk pb : Addr) (w wr : World) (ao xs_ xt_ ad am bo bs bt bd bm : Int) : Prop where
  a : IAt w.heap.size wr ao xs_ xt_ ad am
  b : IAt (w.heap.size + 1) wr bo bs bt bd bm
  T : Tb pk pb wr
  L : Lb wr
  bel : Below w.heap.size w wr
theorem AInv.grow {pk pb : Addr} {w wr w1 : World} {ao xs_ xt_ ad am bo bs bt bd bm : Int} (E : AInv pk pb w wr ao xs_ xt_ ad am bo bs bt bd bm) (h : Below wr.heap.size wr w1) : AInv pk pb w w1 ao xs_ xt_ ad am bo bs bt bd bm :=
  ⟨E.a.stays h (Nat.le_refl _), E.b.stays h (Nat.le_refl _), E.T.stays h (Nat.le_refl _), E.L.stays h (Nat.le_refl _), E.bel.trans (h.mono E.bel.size)⟩
set_option maxRecDepth 10000 in
set_option maxHeartbeats 4000000 in
theorem asmApart_any (pk pb : Addr) (ao xs_ xt_ ad am bo bs bt bd bm : Int) (am0 : 0 ≤ am) (am1 : am < 4294967296) (xs_0 : -9223372036854775808 ≤ xs_) (xs_1 : xs_ ≤ 9223372036854775807) (xt_0 : -9223372036854775808 ≤ xt_) (xt_1 : xt_ ≤ 9223372036854775807) (ad0 : -9223372036854775808 ≤ ad) (ad1 : ad ≤ 9223372036854775807) (bm0 : 0 ≤ bm) (bm1 : bm < 4294967296) (bs0 : -9223372036854775808 ≤ bs) (bs1 : bs ≤ 9223372036854775807) (bt0 : -9223372036854775808 ≤ bt) (bt1 : bt ≤ 9223372036854775807) (bd0 : -9223372036854775808 ≤ bd) (bd1 : bd ≤ 9223372036854775807) (w : World) (T : Tb pk pb w) (L : Lb w) :
    Calls Tryd.prog 3 #[ins ao xs_ xt_ ad am, ins bo bs bt bd bm] w fun e w' => e = .returned (.bool true) ∧ Below w.heap.size w w' := by
  have hA : Below w.heap.size w (w.alloc (.cells #[.int .i64 ao, .int .i64 xs_, .int .i64 xt_, .int .i64 ad, .int .u32 am] 24)) := (Below.refl _ _).alloc (Nat.le_refl _) _
  have hB : Below w.heap.size w ((w.alloc (.cells #[.int .i64 ao, .int .i64 xs_, .int .i64 xt_, .int .i64 ad, .int .u32 am] 24)).alloc (.cells #[.int .i64 bo, .int .i64 bs, .int .i64 bt, .int .i64 bd, .int .u32 bm] 24)) := hA.alloc (by simp) _
  have hB2 : Below (w.alloc (.cells #[.int .i64 ao, .int .i64 xs_, .int .i64 xt_, .int .i64 ad, .int .u32 am] 24)).heap.size (w.alloc (.cells #[.int .i64 ao, .int .i64 xs_, .int .i64 xt_, .int .i64 ad, .int .u32 am] 24)) ((w.alloc (.cells #[.int .i64 ao, .int .i64 xs_, .int .i64 xt_, .int .i64 ad, .int .u32 am] 24)).alloc (.cells #[.int .i64 bo, .int .i64 bs, .int .i64 bt, .int .i64 bd, .int .u32 bm] 24)) := (Below.refl _ _).alloc (Nat.le_refl _) _
  have E0 : AInv pk pb w ((w.alloc (.cells #[.int .i64 ao, .int .i64 xs_, .int .i64 xt_, .int .i64 ad, .int .u32 am] 24)).alloc (.cells #[.int .i64 bo, .int .i64 bs, .int .i64 bt, .int .i64 bd, .int .u32 bm] 24)) ao xs_ xt_ ad am bo bs bt bd bm :=
    ⟨(IAt.alloc w ao xs_ xt_ ad am).stays hB2 (Nat.le_refl _), by have := IAt.alloc (w.alloc (.cells #[.int .i64 ao, .int .i64 xs_, .int .i64 xt_, .int .i64 ad, .int .u32 am] 24)) bo bs bt bd bm; simpa using this, T.stays hB (Nat.le_refl _), L.stays hB (Nat.le_refl _), hB⟩
  clear T L hA hB hB2
  go_enter Tryd.func3, Tryd.ntmps3
  go_wp2_with fail
  refine (texted_any pk pb _ E0.T E0.L).mono ?_
  rintro e w1 ⟨rfl, hb1⟩
  have E1 := E0.grow hb1
  clear E0 hb1
  obtain ⟨⟨a0, a1, a2, a3, a4⟩, ⟨b0, b1, b2, b3, b4⟩, T1, L1, bel1⟩ := E1
  have E1 : Hid (AInv pk pb w w1 ao xs_ xt_ ad am bo bs bt bd bm) := ⟨⟨a0, a1, a2, a3, a4⟩, ⟨b0, b1, b2, b3, b4⟩, T1, L1, bel1⟩
  clear T1 L1 bel1
  have hsz : w.heap.size + 1 < w1.heap.size := cell_lt b0
  by_cases ga : good ao xs_ xt_ ad am
  · go_wp2_with fail
    refine (text_good pk pb ao xs_ xt_ ad am am0 am1 xs_0 xs_1 xt_0 xt_1 ad0 ad1 ga _ E1.out.T E1.out.L).mono ?_
    rintro e w2 ⟨rfl, hb2⟩
    have E2 := E1.out.grow hb2
    clear a0 a1 a2 a3 a4 b0 b1 b2 b3 b4
    obtain ⟨⟨a0, a1, a2, a3, a4⟩, ⟨b0, b1, b2, b3, b4⟩, T1, L1, bel1⟩ := E2
    have E2 : Hid (AInv pk pb w w2 ao xs_ xt_ ad am bo bs bt bd bm) := ⟨⟨a0, a1, a2, a3, a4⟩, ⟨b0, b1, b2, b3, b4⟩, T1, L1, bel1⟩
    clear T1 L1 bel1
    by_cases gb : good bo bs bt bd bm
    · go_wp2_with fail
      refine (text_good pk pb bo bs bt bd bm bm0 bm1 bs0 bs1 bt0 bt1 bd0 bd1 gb _ E2.out.T E2.out.L).mono ?_
      rintro e w3 ⟨rfl, hb3⟩
      have E3 := E2.out.grow hb3
      clear a0 a1 a2 a3 a4 b0 b1 b2 b3 b4
      obtain ⟨⟨a0, a1, a2, a3, a4⟩, ⟨b0, b1, b2, b3, b4⟩, T1, L1, bel1⟩ := E3
      have E3 : Hid (AInv pk pb w w3 ao xs_ xt_ ad am bo bs bt bd bm) := ⟨⟨a0, a1, a2, a3, a4⟩, ⟨b0, b1, b2, b3, b4⟩, T1, L1, bel1⟩
      clear T1 L1 bel1
      go_wp2_with fail
      refine (encode_good pk pb ao xs_ xt_ ad am am0 am1 xs_0 xs_1 xt_0 xt_1 ad0 ad1 ga _ E3.out.T).mono ?_
      rintro e w4 ⟨rfl, hb4⟩
      have E4 := E3.out.grow hb4
      clear a0 a1 a2 a3 a4 b0 b1 b2 b3 b4
      obtain ⟨⟨a0, a1, a2, a3, a4⟩, ⟨b0, b1, b2, b3, b4⟩, T1, L1, bel1⟩ := E4
      have E4 : Hid (AInv pk pb w w4 ao xs_ xt_ ad am bo bs bt bd bm) := ⟨⟨a0, a1, a2, a3, a4⟩, ⟨b0, b1, b2, b3, b4⟩, T1, L1, bel1⟩
      clear T1 L1 bel1
      go_wp2_with fail
      refine (encode_good pk pb bo bs bt bd bm bm0 bm1 bs0 bs1 bt0 bt1 bd0 bd1 gb _ E4.out.T).mono ?_
      rintro e w5 ⟨rfl, hb5⟩
      have E5 := E4.out.grow hb5
      clear a0 a1 a2 a3 a4 b0 b1 b2 b3 b4
      obtain ⟨⟨a0, a1, a2, a3, a4⟩, ⟨b0, b1, b2, b3, b4⟩, T1, L1, bel1⟩ := E5
      clear E1 E2 E3 E4 T1 L1 hb2 hb3 hb4 hb5
      by_cases heq : ao = bo ∧ xs_ = bs ∧ xt_ = bt ∧ ad = bd ∧ am = bm
      · obtain ⟨rfl, rfl, rfl, rfl, rfl⟩ := heq
        clear ga gb
        go_wp2
        go_ret
        exact ⟨by simp, bel1⟩
      · have ht : Hid (¬ ptext ao.toNat ⟨xs_, xt_, ad, am⟩ = ptext bo.toNat ⟨bs, bt, bd, bm⟩) := fun e => heq (text_one am0 bm0 ga gb e)
        have hw : Hid (¬ enc ao.toNat xs_ xt_ ad am = enc bo.toNat bs bt bd bm) := fun e => heq (enc_one am0 bm0 ga gb e)
        clear ga gb
        generalize ptext ao.toNat ⟨xs_, xt_, ad, am⟩ = x at ht ⊢
        generalize ptext bo.toNat ⟨bs, bt, bd, bm⟩ = y at ht ⊢
        generalize enc ao.toNat xs_ xt_ ad am = u at hw ⊢
        generalize enc bo.toNat bs bt bd bm = v at hw ⊢
        have ht' : (x == y) = false := by simpa using ht.out
        have hw' : (u == v) = false := by simpa using hw.out
        go_wp2
        all_goals first
          | (exfalso; apply heq; refine ⟨?_, ?_, ?_, ?_, ?_⟩ <;> assumption)
          | (go_ret; exact ⟨rfl, bel1⟩)
          | (go_ret; refine ⟨?_, bel1⟩; simp [ht', hw'])
    · go_wp2_with (go_at_call 5; refine (text_not pk pb bo bs bt bd bm bm0 bm1 bs0 bs1 bt0 bt1 bd0 bd1 gb _ E2.out.T).mono ?_; rintro e w3 ⟨p, rfl, hb3⟩)
      go_ret
      exact ⟨rfl, (E2.out.grow hb3).bel⟩
  · go_wp2_with fail
    refine (text_not pk pb ao xs_ xt_ ad am am0 am1 xs_0 xs_1 xt_0 xt_1 ad0 ad1 ga _ E1.out.T).mono ?_
    rintro e w2 ⟨p, rfl, hb2⟩
    have E2 := E1.out.grow hb2
    clear a0 a1 a2 a3 a4 b0 b1 b2 b3 b4
    obtain ⟨⟨a0, a1, a2, a3, a4⟩, ⟨b0, b1, b2, b3, b4⟩, T1, L1, bel1⟩ := E2
    have E2 : Hid (AInv pk pb w w2 ao xs_ xt_ ad am bo bs bt bd bm) := ⟨⟨a0, a1, a2, a3, a4⟩, ⟨b0, b1, b2, b3, b4⟩, T1, L1, bel1⟩
    clear T1 L1 bel1
    by_cases gb : good bo bs bt bd bm
    · go_wp2_with (go_at_call 5; refine (text_good pk pb bo bs bt bd bm bm0 bm1 bs0 bs1 bt0 bt1 bd0 bd1 gb _ E2.out.T E2.out.L).mono ?_; rintro e w3 ⟨rfl, hb3⟩)
      go_ret
      exact ⟨rfl, (E2.out.grow hb3).bel⟩
    · go_wp2_with (go_at_call 5; refine (text_not pk pb bo bs bt bd bm bm0 bm1 bs0 bs1 bt0 bt1 bd0 bd1 gb _ E2.out.T).mono ?_; rintro e w3 ⟨q, rfl, hb3⟩)
      go_ret
      exact ⟨rfl, (E2.out.grow hb3).bel⟩
end Go.Proofs.YtccnliihdhnckaaDoor
