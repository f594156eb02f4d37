/-
  The walk of CodeBack: a word that is an instruction is that instruction's word; an instruction that has a word is its instruction.
-/
import Derived.Test.YtnbinljgfipboabDoorBack
namespace Go.Proofs.YtnbinljgfipboabDoor
open Go.RowKit Go.Extern.Stop Go.Stop Go.Extern
open Num Tab
set_option linter.unusedVariables false
/-- an instruction stands at a block -/
structure IAt (B : Nat) (w : World) (o s t d m : Int) : Prop where
  i0 : w.cell? ⟨B, 0, none⟩ = some (.int .i64 o)
  i1 : w.cell? ⟨B, 1, none⟩ = some (.int .i64 s)
  i2 : w.cell? ⟨B, 2, none⟩ = some (.int .i64 t)
  i3 : w.cell? ⟨B, 3, none⟩ = some (.int .i64 d)
  i4 : w.cell? ⟨B, 4, none⟩ = some (.int .u32 m)
theorem IAt.stays {B C : Nat} {w w' : World} {o s t d m : Int} (z : IAt B w o s t d m) (h : Below C w w') (hC : w.heap.size ≤ C) : IAt B w' o s t d m :=
  ⟨cell_stays h hC z.i0, cell_stays h hC z.i1, cell_stays h hC z.i2, cell_stays h hC z.i3, cell_stays h hC z.i4⟩
theorem IAt.alloc (w : World) (o s t d m : Int) : IAt w.heap.size (w.alloc (.cells #[.int .i64 o, .int .i64 s, .int .i64 t, .int .i64 d, .int .u32 m] 24)) o s t d m :=
  ⟨by simp, by simp, by simp, by simp, by simp⟩
/-- from the second Encode on: the world's own facts -/
structure BInv (S : Nat → Addr) (B : Nat) (w wr : World) (o s t d m : Int) : Prop where
  er : Errs S wr
  tb : Tb (S 3) (S 1) wr
  at_ : IAt B wr o s t d m
  bel : Below w.heap.size w wr
theorem BInv.stays {S : Nat → Addr} {B : Nat} {w wr w' : World} {o s t d m : Int} (b : BInv S B w wr o s t d m) (h : Below wr.heap.size wr w') : BInv S B w w' o s t d m :=
  ⟨b.er.stays h, b.tb.stays h (Nat.le_refl _), b.at_.stays h (Nat.le_refl _), b.bel.trans (h.mono b.bel.size)⟩
set_option maxHeartbeats 4000000 in
theorem codeBack_any (S : Nat → Addr) (v o s t d m : Int) (h0 : 0 ≤ v) (h1 : v < 4294967296) (m0 : 0 ≤ m) (m1 : m < 4294967296) (s0 : -9223372036854775808 ≤ s) (s1 : s ≤ 9223372036854775807) (t0 : -9223372036854775808 ≤ t) (t1 : t ≤ 9223372036854775807) (d0 : -9223372036854775808 ≤ d) (d1 : d ≤ 9223372036854775807) (w : World) (EE : Errs S w) (T : Tb (S 3) (S 1) w) :
    Calls Tryd.prog 4 #[.int .u32 v, ins o s t d m] w fun e w' => e = .returned (.bool true) ∧ Below w.heap.size w w' := by
  have HT : Hid (Tb (S 3) (S 1) w) := T
  clear T
  have bA : Below w.heap.size w (w.alloc (.cells #[.int .i64 o, .int .i64 s, .int .i64 t, .int .i64 d, .int .u32 m] 24)) := (Below.refl _ _).alloc (Nat.le_refl _) _
  have BA : BInv S w.heap.size w (w.alloc (.cells #[.int .i64 o, .int .i64 s, .int .i64 t, .int .i64 d, .int .u32 m] 24)) o s t d m := ⟨EE.stays bA, HT.out.stays bA (Nat.le_refl _), IAt.alloc w o s t d m, bA⟩
  clear EE HT bA
  go_enter Tryd.func4, Tryd.ntmps4
  go_wp2_with fail
  refine (coding_any (S 3) (S 1) _ BA.tb).mono ?_
  rintro e w1 ⟨rfl, hb1⟩
  have B1 := BA.stays hb1
  clear BA hb1
  go_wp2_with fail
  refine (decode_ins (S 3) (S 1) v h0 h1 _ B1.tb).mono ?_
  rintro e w2 ⟨k, s2, t2, d2, m2, HI, rfl, hb2⟩
  have B2 := B1.stays hb2
  clear B1 hb2
  have B3 := B2.stays ((Below.refl w2.heap.size w2).alloc (Nat.le_refl _) (.cells #[.int .i64 k, .int .i64 s2, .int .i64 t2, .int .i64 d2, .int .u32 m2] 24))
  have X3 := IAt.alloc w2 k s2 t2 d2 m2
  by_cases hk0 : (k : Int) = 0
  · have hI := HI.out
    rw [show k = 0 by omega] at hI
    obtain ⟨rfl, rfl, rfl, rfl⟩ := ins_zero hI
    clear hI
    simp only [hk0] at B3 X3
    clear HI B2
    go_wp2_with fail
    refine (encode_kind (S 3) (S 1) 0 0 0 0 0 (by omega) _ B3.tb).mono ?_
    rintro e w4 ⟨rfl, hb4⟩
    have B4 := B3.stays hb4
    have X4 := X3.stays hb4 (Nat.le_refl _)
    clear B3 X3 hb4
    obtain ⟨x0, x1, x2, x3, x4⟩ := X4
    go_wp2_with fail
    refine (coded_kind S _ B4.er).mono ?_
    rintro e w5 ⟨rfl, hb5⟩
    have B5 := B4.stays hb5
    have X5 := (IAt.mk x0 x1 x2 x3 x4).stays hb5 (Nat.le_refl _)
    clear B4 hb5 x0 x1 x2 x3 x4
    obtain ⟨x0, x1, x2, x3, x4⟩ := X5
    obtain ⟨y0, y1, y2, y3, y4⟩ := B5.at_
    go_wp2_with fail
    have b5 := B5.bel
    obtain ⟨i0, i1, i2, i3, i4⟩ := B5.at_
    have hzB : w.heap.size < w5.heap.size := cell_lt i0
    refine (encode_all (S 3) (S 1) o s t d m m0 m1 s0 s1 t0 t1 d0 d1 _ B5.tb).mono ?_
    rintro e w6 ⟨hc, hb6⟩
    have B6 := B5.stays hb6
    clear B5 hb6 i0 i1 i2 i3 i4
    obtain ⟨j0, j1, j2, j3, j4⟩ := B6.at_
    have b6 := B6.bel
    rcases hc with ⟨kk, rfl, hkk, hk1, hok, rfl⟩ | ⟨kk, rfl, hkk, hk1, hok, rfl⟩ | ⟨hno, rfl⟩
    · have HO : Hid (okB (sh kk) s t d m = true) := hok
      clear hok
      have TD : Tb (S 3) (S 1) w6.drew := B6.tb.stays (B := w6.heap.size) (Below.refl _ _).drew (Nat.le_refl _)
      go_wp2_with fail
      go_region_with (go_at_call 7; refine (decode_back (S 3) (S 1) kk hkk hk1 s t d m m0 HO.out _ TD).mono ?_; rintro e w7 ⟨rfl, hb7⟩; obtain ⟨f0, f1, f2, f3, f4⟩ := (IAt.mk (o := kk) (s := s) (t := t) (d := d) (m := m) (by simpa using j0) (by simpa using j1) (by simpa using j2) (by simpa using j3) (by simpa using j4) : IAt w.heap.size w6.drew kk s t d m).stays hb7 (Nat.le_refl _))
      all_goals
        go_wp2
        go_ret
        exact ⟨rfl, b6.drew.trans (hb7.mono b6.drew.size)⟩
    · clear hok
      go_wp2
      go_ret
      exact ⟨rfl, b6⟩
    · clear hno
      go_wp2
      go_ret
      exact ⟨rfl, b6⟩
  · have nk : ((k : Int) == 0) = false := by simpa using hk0
    go_wp2_with fail
    refine (encode_back (S 3) (S 1) v h0 h1 k s2 t2 d2 m2 HI.out hk0 _ B3.tb).mono ?_
    rintro e w5 ⟨rfl, hb5⟩
    have B5 := B3.stays hb5
    have X5 := X3.stays hb5 (Nat.le_refl _)
    clear B3 X3 hb5 B2 HI
    obtain ⟨x0, x1, x2, x3, x4⟩ := X5
    obtain ⟨y0, y1, y2, y3, y4⟩ := B5.at_
    go_wp2_with fail
    have b5 := B5.bel
    obtain ⟨i0, i1, i2, i3, i4⟩ := B5.at_
    have hzB : w.heap.size < w5.heap.size := cell_lt i0
    refine (encode_all (S 3) (S 1) o s t d m m0 m1 s0 s1 t0 t1 d0 d1 _ B5.tb).mono ?_
    rintro e w6 ⟨hc, hb6⟩
    have B6 := B5.stays hb6
    clear B5 hb6 i0 i1 i2 i3 i4
    obtain ⟨j0, j1, j2, j3, j4⟩ := B6.at_
    have b6 := B6.bel
    rcases hc with ⟨kk, rfl, hkk, hk1, hok, rfl⟩ | ⟨kk, rfl, hkk, hk1, hok, rfl⟩ | ⟨hno, rfl⟩
    · have HO : Hid (okB (sh kk) s t d m = true) := hok
      clear hok
      have TD : Tb (S 3) (S 1) w6.drew := B6.tb.stays (B := w6.heap.size) (Below.refl _ _).drew (Nat.le_refl _)
      go_wp2_with fail
      go_region_with (go_at_call 7; refine (decode_back (S 3) (S 1) kk hkk hk1 s t d m m0 HO.out _ TD).mono ?_; rintro e w7 ⟨rfl, hb7⟩; obtain ⟨f0, f1, f2, f3, f4⟩ := (IAt.mk (o := kk) (s := s) (t := t) (d := d) (m := m) (by simpa using j0) (by simpa using j1) (by simpa using j2) (by simpa using j3) (by simpa using j4) : IAt w.heap.size w6.drew kk s t d m).stays hb7 (Nat.le_refl _))
      all_goals
        go_wp2
        go_ret
        exact ⟨rfl, b6.drew.trans (hb7.mono b6.drew.size)⟩
    · clear hok
      go_wp2
      go_ret
      exact ⟨rfl, b6⟩
    · clear hno
      go_wp2
      go_ret
      exact ⟨rfl, b6⟩
end Go.Proofs.YtnbinljgfipboabDoor
