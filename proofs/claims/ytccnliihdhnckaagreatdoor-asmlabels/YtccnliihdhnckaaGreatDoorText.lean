/-
  Package asm's Text: an instruction's text, by its form.
-/
import Derived.Test.YtccnliihdhnckaaGreatDoorAny
import Derived.Test.YtccnliihdhnckaaGreatDoorDecode
namespace Go.Proofs.YtccnliihdhnckaaGreatDoor
open Go.RowKit Go.Shelf Go.Joins
open Num Tab Fm Txt
set_option linter.unusedVariables false
/-- what stands in the memory while a text is written: the instruction in block C, the form's iterator in block q -/
structure TInv (C q : Nat) (w wr : World) (l : List UInt8) (p : Nat) (o s t d m : Int) : Prop where
  it : wr.heap[q]? = some (.stringIter ⟨l.toArray⟩ p)
  c0 : wr.cell? ⟨C, 0, none⟩ = some (.int .i64 o)
  c1 : wr.cell? ⟨C, 1, none⟩ = some (.int .i64 s)
  c2 : wr.cell? ⟨C, 2, none⟩ = some (.int .i64 t)
  c3 : wr.cell? ⟨C, 3, none⟩ = some (.int .i64 d)
  c4 : wr.cell? ⟨C, 4, none⟩ = some (.int .u32 m)
  bel : Below w.heap.size w wr
  ord : w.heap.size ≤ C ∧ C < q
section
variable {C q : Nat} {w wr : World} {l : List UInt8} {p : Nat} {o s t d m : Int}
theorem TInv.size (E : TInv C q w wr l p o s t d m) : q < wr.heap.size := some_lt E.it
theorem TInv.next (E : TInv C q w wr l p o s t d m) (j : Nat) : TInv C q w (wr.iterAt q ⟨l.toArray⟩ j) l j o s t d m := by
  have h1 := E.ord
  have c : ∀ {b i : Nat} {v : Value}, b ≠ q → wr.cell? ⟨b, i, none⟩ = some v → (wr.iterAt q ⟨l.toArray⟩ j).cell? ⟨b, i, none⟩ = some v := fun hb h => by
    rw [World.cell?_of_block (w := wr) (Lib.iterAt_other wr q _ _ _ hb)]; exact h
  exact ⟨Lib.iterAt_heap wr _ _ p _ E.it, c (by omega) E.c0, c (by omega) E.c1, c (by omega) E.c2, c (by omega) E.c3, c (by omega) E.c4,
    Lib.below_iterAt E.bel (by omega) _ _, E.ord⟩
theorem TInv.grow (E : TInv C q w wr l p o s t d m) {w1 : World} (h : Below wr.heap.size wr w1) : TInv C q w w1 l p o s t d m :=
  ⟨row_stays h (Nat.le_refl _) E.it, cell_stays h (Nat.le_refl _) E.c0, cell_stays h (Nat.le_refl _) E.c1, cell_stays h (Nat.le_refl _) E.c2, cell_stays h (Nat.le_refl _) E.c3, cell_stays h (Nat.le_refl _) E.c4, E.bel.trans (h.mono E.bel.size), E.ord⟩
theorem TInv.start {W : World} (hC : w.heap.size ≤ C) (hq : C < W.heap.size) (hb : Below w.heap.size w W) (h0 : W.cell? ⟨C, 0, none⟩ = some (.int .i64 o)) (h1 : W.cell? ⟨C, 1, none⟩ = some (.int .i64 s)) (h2 : W.cell? ⟨C, 2, none⟩ = some (.int .i64 t)) (h3 : W.cell? ⟨C, 3, none⟩ = some (.int .i64 d)) (h4 : W.cell? ⟨C, 4, none⟩ = some (.int .u32 m)) (l : List UInt8) :
    TInv C W.heap.size w (W.iter ⟨l.toArray⟩ 0) l 0 o s t d m := by
  have hA : Below W.heap.size W (W.iter ⟨l.toArray⟩ 0) := (Below.refl _ _).alloc (Nat.le_refl _) _
  exact ⟨World.iter_heap W _ 0, cell_stays hA (Nat.le_refl _) h0, cell_stays hA (Nat.le_refl _) h1, cell_stays hA (Nat.le_refl _) h2, cell_stays hA (Nat.le_refl _) h3, cell_stays hA (Nat.le_refl _) h4, hb.trans (hA.mono hb.size), hC, hq⟩
end
set_option maxRecDepth 20000 in
set_option maxHeartbeats 2000000 in
theorem text_ok (pk pb : Addr) (k : Nat) (h1 : 1 ≤ k) (hk : k < 54) (s t d m : Int) (m0 : 0 ≤ m) (m1 : m < 4294967296) (s0 : -9223372036854775808 ≤ s) (s1 : s ≤ 9223372036854775807) (t0 : -9223372036854775808 ≤ t) (t1 : t ≤ 9223372036854775807) (d0 : -9223372036854775808 ≤ d) (d1 : d ≤ 9223372036854775807) (ok : okB (sh k) s t d m = true) (w : World) (T : Tb pk pb w) (b : Lb w) :
    Calls Tryz.prog 8 #[ins k s t d m] w fun e w' => e = .returned (.tuple #[.string ⟨(ptext k ⟨s, t, d, m⟩).toArray⟩, .nilIface]) ∧ Below w.heap.size w w' := by
  have HB : Hid (Lb w) := b
  have HT : Hid (Tb pk pb w) := T
  have hsz : 14 < w.heap.size := by obtain ⟨m, hm⟩ := b.mx; exact cell_lt hm
  clear b T
  have hA : Below w.heap.size w (w.alloc (.cells #[.int .i64 k, .int .i64 s, .int .i64 t, .int .i64 d, .int .u32 m] 24)) := (Below.refl _ _).alloc (Nat.le_refl _) _
  go_enter Tryz.func8, Tryz.ntmps8
  go_wp2_with fail
  refine (encode_any pk pb k h1 hk s t d m m0 m1 s0 s1 t0 t1 d0 d1 _ (HT.out.stays hA (Nat.le_refl _))).mono ?_
  rintro e w1 ⟨rfl, hb1⟩
  rw [encR_ok ok]
  have hc0 : w1.cell? ⟨w.heap.size, 0, none⟩ = some (.int .i64 k) := cell_stays hb1 (Nat.le_refl _) (by simp)
  have hc1 : w1.cell? ⟨w.heap.size, 1, none⟩ = some (.int .i64 s) := cell_stays hb1 (Nat.le_refl _) (by simp)
  have hc2 : w1.cell? ⟨w.heap.size, 2, none⟩ = some (.int .i64 t) := cell_stays hb1 (Nat.le_refl _) (by simp)
  have hc3 : w1.cell? ⟨w.heap.size, 3, none⟩ = some (.int .i64 d) := cell_stays hb1 (Nat.le_refl _) (by simp)
  have hc4 : w1.cell? ⟨w.heap.size, 4, none⟩ = some (.int .u32 m) := cell_stays hb1 (Nat.le_refl _) (by simp)
  have hb2 : Below w.heap.size w w1 := hA.trans (hb1.mono (by simp))
  have hnm : w1.cell? ⟨0, k, none⟩ = some (.string ⟨(nme k).toArray⟩) := (HB.out.stays hb2 (Nat.le_refl _)).nm k hk
  have hlt : w.heap.size < w1.heap.size := by have := hb1.size; simp at this; omega
  have k0 : (0 : Int) ≤ k := by omega
  have k1 : (k : Int) < 54 := by omega
  go_wp2_with (go_at_call 26; refine (form_nat k hk _).mono ?_; rintro e w' ⟨rfl, rfl⟩)
  go_loopw [6] (fun a wr => ∃ p : Nat, p ≤ (form k).length ∧ a = .string ⟨(nme k ++ ((form k).take p).flatMap (rend ⟨s, t, d, m⟩)).toArray⟩ ∧ TInv w.heap.size w'.heap.size w wr (form k) p k s t d m) (fun _ wr => (form k).length - wr.iterPos w'.heap.size)
  case atStart => exact ⟨0, Nat.zero_le _, by simp, TInv.start (Nat.le_refl _) hlt hb2 hc0 hc1 hc2 hc3 hc4 _⟩
  case round =>
    obtain ⟨p, hp, rfl, E⟩ := hrel
    by_cases hpl : p < (form k).length
    · have hc128 : (form k)[p].toNat < 128 := form_ascii k hk _ (List.getElem_mem hpl)
      have hnx := fun ty => dec_at (form k) p hpl _ rfl hc128 wr w'.heap.size E.it ty
      have hfl := take_flat (rend ⟨s, t, d, m⟩) (form k) p hpl
      generalize (form k)[p] = c at hc128 hnx hfl
      have E2 := E.next (p + 1)
      generalize wr.iterAt w'.heap.size ⟨(form k).toArray⟩ (p + 1) = wr2 at hnx E2
      have hE := enc_ascii c hc128
      have HF : Hid (nme k ++ ((form k).take (p + 1)).flatMap (rend ⟨s, t, d, m⟩) = (nme k ++ ((form k).take p).flatMap (rend ⟨s, t, d, m⟩)) ++ rend ⟨s, t, d, m⟩ c) := by
        show _ = _
        rw [hfl, List.append_assoc]
      clear hfl
      have hal : (nme k ++ ((form k).take p).flatMap (rend ⟨s, t, d, m⟩)).length ≤ 1000 := by
        have a1 := rend_len s t d m s0 s1 t0 t1 d0 d1 m0 m1 ((form k).take p)
        have a2 := form_len k hk
        rw [List.length_append]
        rw [List.length_take] at a1
        omega
      generalize nme k ++ ((form k).take p).flatMap (rend ⟨s, t, d, m⟩) = acc at HF hal ⊢
      cases hn : numB c with
      | true =>
        have vr := vl_rng c s t d m s0 s1 t0 t1 d0 d1 m0 m1
        have HR : Hid (rend ⟨s, t, d, m⟩ c = Lib.itoa (vl ⟨s, t, d, m⟩ c)) := by show rend _ c = _; unfold rend; rw [if_pos hn]
        have hval := fun W => value_any c hn k s t d m s0 s1 t0 t1 d0 d1 m0 m1 W
        generalize vl ⟨s, t, d, m⟩ c = x at vr HR hval
        have hadd := run_add acc (Lib.itoa x) (by have := Lib.itoa_length_le x vr.1 vr.2; omega)
        obtain ⟨q0, q1, q2, q3, q4⟩ := (⟨E2.c0, E2.c1, E2.c2, E2.c3, E2.c4⟩ : _ ∧ _ ∧ _ ∧ _ ∧ _)
        go_wp2_with (first | (go_at_call 27; refine (isNumber_any c _).mono ?_; rintro e w' ⟨rfl, rfl⟩) | (go_at_call 29; refine (hval _).mono ?_; rintro e w3 ⟨rfl, hb3⟩) | (go_at_call 28; refine (fmt_any _ vr.1 vr.2 _ (HB.out.stays (E2.grow hb3).bel (Nat.le_refl _))).mono ?_; rintro e w4 ⟨rfl, hb4⟩))
        have E4 := (E2.grow hb3).grow hb4
        refine ⟨⟨p + 1, by omega, by rw [HF.out, HR.out], E4⟩, ?_⟩
        rw [iterPos_of E4.it, iterPos_of E.it]
        omega
      | false =>
        have HR : Hid (rend ⟨s, t, d, m⟩ c = [c]) := by show rend _ c = _; unfold rend; rw [hn]; rfl
        have hadd := run_add acc [c] (by simp; omega)
        go_wp2_with (go_at_call 27; refine (isNumber_any c _).mono ?_; rintro e w' ⟨rfl, rfl⟩)
        refine ⟨⟨p + 1, by omega, by rw [HF.out, HR.out], E2⟩, ?_⟩
        rw [iterPos_of E2.it, iterPos_of E.it]
        omega
    · obtain rfl : p = (form k).length := by omega
      have hs : ¬ (form k).length < (ByteArray.mk (form k).toArray).size := by simp [ByteArray.size]
      have hnx := fun ty => Lib.run_next_end_at (P := Tryz.prog) wr _ _ _ ty E.it hs
      have hbel := E.bel
      go_wp2
      go_ret2
      refine ⟨?_, hbel⟩
      unfold ptext
      rw [List.take_length]
      rfl
set_option maxHeartbeats 1000000 in
theorem text_bound (pk pb : Addr) (k : Nat) (h1 : 1 ≤ k) (hk : k < 54) (s t d m : Int) (m0 : 0 ≤ m) (m1 : m < 4294967296) (s0 : -9223372036854775808 ≤ s) (s1 : s ≤ 9223372036854775807) (t0 : -9223372036854775808 ≤ t) (t1 : t ≤ 9223372036854775807) (d0 : -9223372036854775808 ≤ d) (d1 : d ≤ 9223372036854775807) (ok : okB (sh k) s t d m = false) (w : World) (T : Tb pk pb w) :
    Calls Tryz.prog 8 #[ins k s t d m] w fun e w' => e = .returned (.tuple #[.string ⟨#[]⟩, .iface 210 (.pointer (some pb))]) ∧ Below w.heap.size w w' := by
  have HT : Hid (Tb pk pb w) := T
  clear T
  have hA : Below w.heap.size w (w.alloc (.cells #[.int .i64 k, .int .i64 s, .int .i64 t, .int .i64 d, .int .u32 m] 24)) := (Below.refl _ _).alloc (Nat.le_refl _) _
  go_enter Tryz.func8, Tryz.ntmps8
  go_wp2_with (go_at_call 25; refine (encode_any pk pb k h1 hk s t d m m0 m1 s0 s1 t0 t1 d0 d1 _ (HT.out.stays hA (Nat.le_refl _))).mono ?_; rintro e w1 ⟨rfl, hb1⟩; rw [encR_bad ok])
  go_ret2
  exact ⟨rfl, hA.trans (hb1.mono (by simp))⟩
set_option maxHeartbeats 1000000 in
theorem text_kind (pk pb : Addr) (o s t d m : Int) (h : ¬ (0 < o ∧ o < 54)) (w : World) (T : Tb pk pb w) :
    Calls Tryz.prog 8 #[ins o s t d m] w fun e w' => e = .returned (.tuple #[.string ⟨#[]⟩, .iface 210 (.pointer (some pk))]) ∧ Below w.heap.size w w' := by
  have HT : Hid (Tb pk pb w) := T
  clear T
  have hA : Below w.heap.size w (w.alloc (.cells #[.int .i64 o, .int .i64 s, .int .i64 t, .int .i64 d, .int .u32 m] 24)) := (Below.refl _ _).alloc (Nat.le_refl _) _
  go_enter Tryz.func8, Tryz.ntmps8
  go_wp2_with (go_at_call 25; refine (encode_kind pk pb o s t d m h _ (HT.out.stays hA (Nat.le_refl _))).mono ?_; rintro e w1 ⟨rfl, hb1⟩)
  go_ret2
  exact ⟨rfl, hA.trans (hb1.mono (by simp))⟩
end Go.Proofs.YtccnliihdhnckaaGreatDoor
