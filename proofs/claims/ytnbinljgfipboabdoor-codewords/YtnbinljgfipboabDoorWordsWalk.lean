/-
  The walk of CodeWords: the program's answers at any word, any instruction and any operation are the document's.
-/
import Derived.Test.YtnbinljgfipboabDoorDecodeOf
import Derived.Test.YtnbinljgfipboabDoorEncodeOf
import Derived.Test.YtnbinljgfipboabDoorBackWalk
namespace Go.Proofs.YtnbinljgfipboabDoor
open Go.RowKit Go.Extern.Stop Go.Stop Go.Extern
open Num Tab
set_option linter.unusedVariables false
theorem dec_one {v : Int} (h0 : 0 ≤ v) (h1 : v < 4294967296) {k j : Nat} (D : DecP v k) (E : DecP v j) : k = j := by
  rcases D with ⟨d1, d2, d3⟩ | ⟨d1, d2⟩
  · rcases E with ⟨e1, e2, e3⟩ | ⟨e1, e2⟩
    · exact xw_one k j d2 d1 e2 e1 v h0 h1 d3 e3
    · exact absurd d3 (e2 k d1 d2)
  · rcases E with ⟨e1, e2, e3⟩ | ⟨e1, e2⟩
    · exact absurd e3 (d2 j e1 e2)
    · omega
theorem decodeOf_same (v : Int) (h0 : 0 ≤ v) (h1 : v < 4294967296) (k : Nat) (s t d m : Int) (I : IsIns v k s t d m) (w : World) :
    Calls Tryd.prog 8 #[.int .u32 v] w fun e w' => e = .returned (ins k s t d m) ∧ Below w.heap.size w w' := by
  obtain ⟨D, rfl, rfl, rfl, rfl⟩ := I
  refine (decodeOf_any v h0 h1 w).mono ?_
  rintro e w' ⟨j, E, rfl, hb⟩
  obtain rfl := dec_one h0 h1 D E
  exact ⟨rfl, hb⟩
theorem fields_out (op : Int) (h : op < 1 ∨ 54 ≤ op) (w : World) : Calls Tryd.prog 12 #[.int .i64 op] w fun e w' => e = .returned (.string ⟨#[]⟩) ∧ w' = w := by
  have e : fieldsI op = [] := by
    unfold fieldsI
    by_cases hr : 0 ≤ op ∧ op < 54
    · rw [if_pos hr, show op = 0 by omega]; rfl
    · rw [if_neg hr]
  have := fields_any op w
  rw [e] at this
  exact this
theorem BInv.drew {S : Nat → Addr} {B : Nat} {w wr : World} {o s t d m : Int} (b : BInv S B w wr o s t d m) : BInv S B w wr.drew o s t d m :=
  b.stays (Below.refl _ _).drew
set_option maxHeartbeats 8000000 in
theorem codeWords_any (S : Nat → Addr) (v o s t d m op : Int) (h0 : 0 ≤ v) (h1 : v < 4294967296) (m0 : 0 ≤ m) (m1 : m < 4294967296) (s0 : -9223372036854775808 ≤ s) (s1 : s ≤ 9223372036854775807) (t0 : -9223372036854775808 ≤ t) (t1 : t ≤ 9223372036854775807) (d0 : -9223372036854775808 ≤ d) (d1 : d ≤ 9223372036854775807) (w : World) (EE : Errs S w) (T : Tb (S 3) (S 1) w) :
    Calls Tryd.prog 3 #[.int .u32 v, ins o s t d m, .int .i64 op] w fun e w' => e = .returned (.bool true) ∧ Below w.heap.size w w' := by
  have HT : Hid (Tb (S 3) (S 1) w) := T
  clear T
  have bA : Below w.heap.size w (w.alloc (.cells #[.int .i64 o, .int .i64 s, .int .i64 t, .int .i64 d, .int .u32 m] 24)) := (Below.refl _ _).alloc (Nat.le_refl _) _
  have BA : BInv S w.heap.size w (w.alloc (.cells #[.int .i64 o, .int .i64 s, .int .i64 t, .int .i64 d, .int .u32 m] 24)) o s t d m := ⟨EE.stays bA, HT.out.stays bA (Nat.le_refl _), IAt.alloc w o s t d m, bA⟩
  clear EE HT bA
  have hff := fieldFlds
  go_enter Tryd.func3, Tryd.ntmps3
  go_wp2_with fail
  refine (coding_any (S 3) (S 1) _ BA.tb).mono ?_
  rintro e w1 ⟨rfl, hb1⟩
  have B1 := BA.stays hb1
  clear BA hb1
  go_wp2_with fail
  refine (decode_ins (S 3) (S 1) v h0 h1 _ B1.tb).mono ?_
  rintro e w2 ⟨k, s2, t2, d2, m2, HI, rfl, hb2⟩
  have B2 := B1.stays hb2
  clear B1 hb2
  have B3 := B2.stays ((Below.refl w2.heap.size w2).alloc (Nat.le_refl _) (.cells #[.int .i64 k, .int .i64 s2, .int .i64 t2, .int .i64 d2, .int .u32 m2] 24))
  have X3 := IAt.alloc w2 k s2 t2 d2 m2
  clear B2
  go_wp2_with fail
  generalize w2.alloc (.cells #[.int .i64 k, .int .i64 s2, .int .i64 t2, .int .i64 d2, .int .u32 m2] 24) = w3 at B3 X3 ⊢
  have XD : IAt w2.heap.size w3.drew k s2 t2 d2 m2 := X3.stays (Below.refl w3.heap.size w3).drew (Nat.le_refl _)
  obtain ⟨x0, x1, x2, x3, x4⟩ := X3
  go_region_with (go_at_call 8; refine (decodeOf_same v h0 h1 k s2 t2 d2 m2 HI.out _).mono ?_; rintro e w4 ⟨rfl, hb4⟩; obtain ⟨f0, f1, f2, f3, f4⟩ := XD.stays hb4 (Nat.le_refl _))
  all_goals
    have B4 := B3.drew.stays hb4
    clear B3 XD HI x0 x1 x2 x3 x4 hb4 f0 f1 f2 f3 f4
    obtain ⟨y0, y1, y2, y3, y4⟩ := B4.at_
    go_wp2_with fail
    refine (encode_all (S 3) (S 1) o s t d m m0 m1 s0 s1 t0 t1 d0 d1 _ B4.tb).mono ?_
    rintro e w5 ⟨hc, hb5⟩
    have B5 := B4.stays hb5
    clear B4 hb5 y0 y1 y2 y3 y4
    obtain ⟨y0, y1, y2, y3, y4⟩ := B5.at_
    rcases hc with ⟨kk, rfl, hkk, hk1, hok, rfl⟩ | ⟨kk, rfl, hkk, hk1, hok, rfl⟩ | ⟨hno, rfl⟩
    · have HO : Hid (okB (sh kk) s t d m = true) := hok
      clear hok
      go_wp2_with fail
      refine (encodeOf_in kk hk1 hkk s t d m m0 m1 _).mono ?_
      rintro e w6 ⟨rfl, hb6⟩
      rw [encO_ok HO.out]
      have B6 := B5.stays hb6
      clear B5 hb6 HO
      go_wp2_with fail
      refine (coded_nil _).mono ?_
      rintro e w7 ⟨rfl, rfl⟩
      have b7 := B6.bel
      clear B6 y0 y1 y2 y3 y4
      by_cases hop : 1 ≤ op ∧ op < 54
      · obtain ⟨q, rfl⟩ : ∃ q : Nat, op = q := ⟨op.toNat, by omega⟩
        have hfl : flds q = lt (sh q) := rfl
        go_wp2_with (first | (go_at_call 12; refine (fields_nat q (by omega) _).mono ?_; rintro e w' ⟨rfl, rfl⟩) | (go_at_call 13; refine (rowOf_in q hop.1 hop.2 _).mono ?_; rintro e w8 ⟨rfl, hb8⟩) | (go_at_call 14; refine (kind_any _ _).mono ?_; rintro e w' ⟨rfl, rfl⟩) | (go_at_call 15; refine (kindOf_any _ _).mono ?_; rintro e w9 ⟨rfl, hb9⟩))
        go_ret
        exact ⟨rfl, (b7.trans (hb8.mono b7.size)).trans (hb9.mono (by have := b7.size; have := hb8.size; omega))⟩
      · have hop' : op < 1 ∨ 54 ≤ op := by omega
        go_wp2_with (first | (go_at_call 12; refine (fields_out op hop' _).mono ?_; rintro e w' ⟨rfl, rfl⟩) | (go_at_call 13; refine (rowOf_out op hop' _).mono ?_; rintro e w8 ⟨rfl, hb8⟩) | (go_at_call 14; refine (kind_any _ _).mono ?_; rintro e w' ⟨rfl, rfl⟩) | (go_at_call 15; refine (kindOf_any _ _).mono ?_; rintro e w9 ⟨rfl, hb9⟩))
        go_ret
        exact ⟨rfl, (b7.trans (hb8.mono b7.size)).trans (hb9.mono (by have := b7.size; have := hb8.size; omega))⟩
    · have HO : Hid (okB (sh kk) s t d m = false) := hok
      clear hok
      go_wp2_with fail
      refine (encodeOf_in kk hk1 hkk s t d m m0 m1 _).mono ?_
      rintro e w6 ⟨rfl, hb6⟩
      rw [encO_bad HO.out]
      have B6 := B5.stays hb6
      clear B5 hb6 HO
      go_wp2_with fail
      refine (coded_bound S _ B6.er).mono ?_
      rintro e w7 ⟨rfl, hb7⟩
      have b7 := (B6.stays hb7).bel
      clear B6 hb7 y0 y1 y2 y3 y4
      by_cases hop : 1 ≤ op ∧ op < 54
      · obtain ⟨q, rfl⟩ : ∃ q : Nat, op = q := ⟨op.toNat, by omega⟩
        have hfl : flds q = lt (sh q) := rfl
        go_wp2_with (first | (go_at_call 12; refine (fields_nat q (by omega) _).mono ?_; rintro e w' ⟨rfl, rfl⟩) | (go_at_call 13; refine (rowOf_in q hop.1 hop.2 _).mono ?_; rintro e w8 ⟨rfl, hb8⟩) | (go_at_call 14; refine (kind_any _ _).mono ?_; rintro e w' ⟨rfl, rfl⟩) | (go_at_call 15; refine (kindOf_any _ _).mono ?_; rintro e w9 ⟨rfl, hb9⟩))
        go_ret
        exact ⟨rfl, (b7.trans (hb8.mono b7.size)).trans (hb9.mono (by have := b7.size; have := hb8.size; omega))⟩
      · have hop' : op < 1 ∨ 54 ≤ op := by omega
        go_wp2_with (first | (go_at_call 12; refine (fields_out op hop' _).mono ?_; rintro e w' ⟨rfl, rfl⟩) | (go_at_call 13; refine (rowOf_out op hop' _).mono ?_; rintro e w8 ⟨rfl, hb8⟩) | (go_at_call 14; refine (kind_any _ _).mono ?_; rintro e w' ⟨rfl, rfl⟩) | (go_at_call 15; refine (kindOf_any _ _).mono ?_; rintro e w9 ⟨rfl, hb9⟩))
        go_ret
        exact ⟨rfl, (b7.trans (hb8.mono b7.size)).trans (hb9.mono (by have := b7.size; have := hb8.size; omega))⟩
    · go_wp2_with fail
      refine (encodeOf_out o s t d m hno _).mono ?_
      rintro e w6 ⟨rfl, hb6⟩
      have B6 := B5.stays hb6
      clear B5 hb6 hno
      go_wp2_with fail
      refine (coded_kind S _ B6.er).mono ?_
      rintro e w7 ⟨rfl, hb7⟩
      have b7 := (B6.stays hb7).bel
      clear B6 hb7 y0 y1 y2 y3 y4
      by_cases hop : 1 ≤ op ∧ op < 54
      · obtain ⟨q, rfl⟩ : ∃ q : Nat, op = q := ⟨op.toNat, by omega⟩
        have hfl : flds q = lt (sh q) := rfl
        go_wp2_with (first | (go_at_call 12; refine (fields_nat q (by omega) _).mono ?_; rintro e w' ⟨rfl, rfl⟩) | (go_at_call 13; refine (rowOf_in q hop.1 hop.2 _).mono ?_; rintro e w8 ⟨rfl, hb8⟩) | (go_at_call 14; refine (kind_any _ _).mono ?_; rintro e w' ⟨rfl, rfl⟩) | (go_at_call 15; refine (kindOf_any _ _).mono ?_; rintro e w9 ⟨rfl, hb9⟩))
        go_ret
        exact ⟨rfl, (b7.trans (hb8.mono b7.size)).trans (hb9.mono (by have := b7.size; have := hb8.size; omega))⟩
      · have hop' : op < 1 ∨ 54 ≤ op := by omega
        go_wp2_with (first | (go_at_call 12; refine (fields_out op hop' _).mono ?_; rintro e w' ⟨rfl, rfl⟩) | (go_at_call 13; refine (rowOf_out op hop' _).mono ?_; rintro e w8 ⟨rfl, hb8⟩) | (go_at_call 14; refine (kind_any _ _).mono ?_; rintro e w' ⟨rfl, rfl⟩) | (go_at_call 15; refine (kindOf_any _ _).mono ?_; rintro e w9 ⟨rfl, hb9⟩))
        go_ret
        exact ⟨rfl, (b7.trans (hb8.mono b7.size)).trans (hb9.mono (by have := b7.size; have := hb8.size; omega))⟩
end Go.Proofs.YtnbinljgfipboabDoor
