/-
  Package asm's Text: an instruction's text, by its form.
-/
import Derived.Test.YtccnliihdhnckaaGreatDoorKAny
import Derived.Test.YtccnliihdhnckaaGreatDoorQDecode
namespace Go.Proofs.YtccnliihdhnckaaGreatDoor
open Go.RowKit Go.Shelf Go.Joins
open Num Tab Fm Txt
set_option linter.unusedVariables false
/-- what stands in the memory while a text is written: the instruction in block C, the form's iterator in block q -/
structure TInv (C q : Nat) (w wr : World) (l : List UInt8) (p : Nat) (o s t d m : Int) : Prop where
  it : wr.heap[q]? = some (.stringIter ⟨l.toArray⟩ p)
  c0 : wr.cell? ⟨C, 0, none⟩ = some (.int .i64 o)
  c1 : wr.cell? ⟨C, 1, none⟩ = some (.int .i64 s)
  c2 : wr.cell? ⟨C, 2, none⟩ = some (.int .i64 t)
  c3 : wr.cell? ⟨C, 3, none⟩ = some (.int .i64 d)
  c4 : wr.cell? ⟨C, 4, none⟩ = some (.int .u32 m)
  bel : Below w.heap.size w wr
  ord : w.heap.size ≤ C ∧ C < q
section
variable {C q : Nat} {w wr : World} {l : List UInt8} {p : Nat} {o s t d m : Int}
theorem TInv.size (E : TInv C q w wr l p o s t d m) : q < wr.heap.size := some_lt E.it
theorem TInv.next (E : TInv C q w wr l p o s t d m) (j : Nat) : TInv C q w (wr.iterAt q ⟨l.toArray⟩ j) l j o s t d m := by
  have h1 := E.ord
  have c : ∀ {b i : Nat} {v : Value}, b ≠ q → wr.cell? ⟨b, i, none⟩ = some v → (wr.iterAt q ⟨l.toArray⟩ j).cell? ⟨b, i, none⟩ = some v := fun hb h => by
    rw [World.cell?_of_block (w := wr) (Lib.iterAt_other wr q _ _ _ hb)]; exact h
  exact ⟨Lib.iterAt_heap wr _ _ p _ E.it, c (by omega) E.c0, c (by omega) E.c1, c (by omega) E.c2, c (by omega) E.c3, c (by omega) E.c4,
    Lib.below_iterAt E.bel (by omega) _ _, E.ord⟩
theorem TInv.grow (E : TInv C q w wr l p o s t d m) {w1 : World} (h : Below wr.heap.size wr w1) : TInv C q w w1 l p o s t d m :=
  ⟨row_stays h (Nat.le_refl _) E.it, cell_stays h (Nat.le_refl _) E.c0, cell_stays h (Nat.le_refl _) E.c1, cell_stays h (Nat.le_refl _) E.c2, cell_stays h (Nat.le_refl _) E.c3, cell_stays h (Nat.le_refl _) E.c4, E.bel.trans (h.mono E.bel.size), E.ord⟩
theorem TInv.start {W : World} (hC : w.heap.size ≤ C) (hq : C < W.heap.size) (hb : Below w.heap.size w W) (h0 : W.cell? ⟨C, 0, none⟩ = some (.int .i64 o)) (h1 : W.cell? ⟨C, 1, none⟩ = some (.int .i64 s)) (h2 : W.cell? ⟨C, 2, none⟩ = some (.int .i64 t)) (h3 : W.cell? ⟨C, 3, none⟩ = some (.int .i64 d)) (h4 : W.cell? ⟨C, 4, none⟩ = some (.int .u32 m)) (l : List UInt8) :
    TInv C W.heap.size w (W.iter ⟨l.toArray⟩ 0) l 0 o s t d m := by
  have hA : Below W.heap.size W (W.iter ⟨l.toArray⟩ 0) := (Below.refl _ _).alloc (Nat.le_refl _) _
  exact ⟨World.iter_heap W _ 0, cell_stays hA (Nat.le_refl _) h0, cell_stays hA (Nat.le_refl _) h1, cell_stays hA (Nat.le_refl _) h2, cell_stays hA (Nat.le_refl _) h3, cell_stays hA (Nat.le_refl _) h4, hb.trans (hA.mono hb.size), hC, hq⟩
end
set_option maxRecDepth 20000 in
set_option maxHeartbeats 2000000 in
theorem text_ok (pk pb : Addr) (k : Nat) (h1 : 1 ≤ k) (hk : k < 54) (s t d m : Int) (m0 : 0 ≤ m) (m1 : m < 4294967296) (s0 : -9223372036854775808 ≤ s) (s1 : s ≤ 9223372036854775807) (t0 : -9223372036854775808 ≤ t) (t1 : t ≤ 9223372036854775807) (d0 : -9223372036854775808 ≤ d) (d1 : d ≤ 9223372036854775807) (ok : okB (sh k) s t d m = true) (w : World) (T : Tb pk pb w) (b : Lb w) :
    Calls Tryz.prog 8 #[ins k s t d m] w fun e w' => e = .returned (.tuple #[.string ⟨(ptext k ⟨s, t, d, m⟩).toArray⟩, .nilIface]) ∧ Below w.heap.size w w' := by
  have HB : Hid (Lb w) := b
  have HT : Hid (Tb pk pb w) := T
  have hsz : 14 < w.heap.size := by obtain ⟨m, hm⟩ := b.mx; exact cell_lt hm
  clear b T
  have hA : Below w.heap.size w (w.alloc (.cells #[.int .i64 k, .int .i64 s, .int .i64 t, .int .i64 d, .int .u32 m] 24)) := (Below.refl _ _).alloc (Nat.le_refl _) _
  go_enter Tryz.func8, Tryz.ntmps8
  go_wp2_with fail
  refine (encode_any pk pb k h1 hk s t d m m0 m1 s0 s1 t0 t1 d0 d1 _ (HT.out.stays hA (Nat.le_refl _))).mono ?_
  rintro e w1 ⟨rfl, hb1⟩
  rw [encR_ok ok]
  have hc0 : w1.cell? ⟨w.heap.size, 0, none⟩ = some (.int .i64 k) := cell_stays hb1 (Nat.le_refl _) (by simp)
  have hc1 : w1.cell? ⟨w.heap.size, 1, none⟩ = some (.int .i64 s) := cell_stays hb1 (Nat.le_refl _) (by simp)
  have hc2 : w1.cell? ⟨w.heap.size, 2, none⟩ = some (.int .i64 t) := cell_stays hb1 (Nat.le_refl _) (by simp)
  have hc3 : w1.cell? ⟨w.heap.size, 3, none⟩ = some (.int .i64 d) := cell_stays hb1 (Nat.le_refl _) (by simp)
  have hc4 : w1.cell? ⟨w.heap.size, 4, none⟩ = some (.int .u32 m) := cell_stays hb1 (Nat.le_refl _) (by simp)
  have hb2 : Below w.heap.size w w1 := hA.trans (hb1.mono (by simp))
  have hnm : w1.cell? ⟨0, k, none⟩ = some (.string ⟨(nme k).toArray⟩) := (HB.out.stays hb2 (Nat.le_refl _)).nm k hk
  have hlt : w.heap.size < w1.heap.size := by have := hb1.size; simp at this; omega
  have k0 : (0 : Int) ≤ k := by omega
  have k1 : (k : Int) < 54 := by omega
  go_wp2_with (go_at_call 26; refine (form_nat k hk _).mono ?_; rintro e w' ⟨rfl, rfl⟩)
  go_loopw [6] (fun a wr => ∃ p : Nat, p ≤ (form k).length ∧ a = .string ⟨(nme k ++ ((form k).take p).flatMap (rend ⟨s, t, d, m⟩)).toArray⟩ ∧ TInv w.heap.size w'.heap.size w wr (form k) p k s t d m) (fun _ wr => (form k).length - wr.iterPos w'.heap.size)
  case atStart => exact ⟨0, Nat.zero_le _, by simp, TInv.start (Nat.le_refl _) hlt hb2 hc0 hc1 hc2 hc3 hc4 _⟩
  case round =>
    obtain ⟨p, hp, rfl, E⟩ := hrel
    by_cases hpl : p < (form k).length
    · have hc128 : (form k)[p].toNat < 128 := form_ascii k hk _ (List.getElem_mem hpl)
      have hnx := fun ty => dec_at (form k) p hpl _ rfl hc128 wr w'.heap.size E.it ty
      have hfl := take_flat (rend ⟨s, t, d, m⟩) (form k) p hpl
      generalize (form k)[p] = c at hc128 hnx hfl
      have E2 := E.next (p + 1)
      generalize wr.iterAt w'.heap.size ⟨(form k).toArray⟩ (p + 1) = wr2 at hnx E2
      have hE := enc_ascii c hc128
      have HF : Hid (nme k ++ ((form k).take (p + 1)).flatMap (rend ⟨s, t, d, m⟩) = (nme k ++ ((form k).take p).flatMap (rend ⟨s, t, d, m⟩)) ++ rend ⟨s, t, d, m⟩ c) := by
        show _ = _
        rw [hfl, List.append_assoc]
      clear hfl
      have hal : (nme k ++ ((form k).take p).flatMap (rend ⟨s, t, d, m⟩)).length ≤ 1000 := by
        have a1 := rend_len s t d m s0 s1 t0 t1 d0 d1 m0 m1 ((form k).take p)
        have a2 := form_len k hk
        rw [List.length_append]
        rw [List.length_take] at a1
        omega
      generalize nme k ++ ((form k).take p).flatMap (rend ⟨s, t, d, m⟩) = acc at HF hal ⊢
      cases hn : numB c with
      | true =>
        have vr := vl_rng c s t d m s0 s1 t0 t1 d0 d1 m0 m1
        have HR : Hid (rend ⟨s, t, d, m⟩ c = Lib.itoa (vl ⟨s, t, d, m⟩ c)) := by show rend _ c = _; unfold rend; rw [if_pos hn]
        have hval := fun W => value_any c hn k s t d m s0 s1 t0 t1 d0 d1 m0 m1 W
        generalize vl ⟨s, t, d, m⟩ c = x at vr HR hval
        have hadd := run_add acc (Lib.itoa x) (by have := Lib.itoa_length_le x vr.1 vr.2; omega)
        obtain ⟨q0, q1, q2, q3, q4⟩ := (⟨E2.c0, E2.c1, E2.c2, E2.c3, E2.c4⟩ : _ ∧ _ ∧ _ ∧ _ ∧ _)
        go_wp2_with (first | (go_at_call 27; refine (isNumber_any c _).mono ?_; rintro e w' ⟨rfl, rfl⟩) | (go_at_call 29; refine (hval _).mono ?_; rintro e w3 ⟨rfl, hb3⟩) | (go_at_call 28; refine (fmt_any _ vr.1 vr.2 _ (HB.out.stays (E2.grow hb3).bel (Nat.le_refl _))).mono ?_; rintro e w4 ⟨rfl, hb4⟩))
        have E4 := (E2.grow hb3).grow hb4
        refine ⟨⟨p + 1, by omega, by rw [HF.out, HR.out], E4⟩, ?_⟩
        rw [iterPos_of E4.it, iterPos_of E.it]
        omega
      | false =>
        have HR : Hid (rend ⟨s, t, d, m⟩ c = [c]) := by show rend _ c = _; unfold rend; rw [hn]; rfl
        have hadd := run_add acc [c] (by simp; omega)
        go_wp2_with (go_at_call 27; refine (isNumber_any c _).mono ?_; rintro e w' ⟨rfl, rfl⟩)
        refine ⟨⟨p + 1, by omega, by rw [HF.out, HR.out], E2⟩, ?_⟩
        rw [iterPos_of E2.it, iterPos_of E.it]
        omega
    · obtain rfl : p = (form k).length := by omega
      have hs : ¬ (form k).length < (ByteArray.mk (form k).toArray).size := by simp [ByteArray.size]
      have hnx := fun ty => Lib.run_next_end_at (P := Tryz.prog) wr _ _ _ ty E.it hs
      have hbel := E.bel
      go_wp2
      go_ret2
      refine ⟨?_, hbel⟩
      unfold ptext
      rw [List.take_length]
      rfl
end Go.Proofs.YtccnliihdhnckaaGreatDoor
/-
  Package asm's put, in the memory of Parse: the answer's block, the instruction's, the form's iterator.
-/
namespace Go.Proofs.YtccnliihdhnckaaGreatDoor
open Go.RowKit Go.Shelf Go.Joins
open Num Tab Fm Txt
set_option linter.unusedVariables false
/-- what stands in the memory while a text is read -/
structure PInv (w wr : World) (l : List UInt8) (p : Nat) (o : Int) (f : F) : Prop where
  it : wr.heap[w.heap.size + 1 + 1]? = some (.stringIter ⟨l.toArray⟩ p)
  z : ZAt w.heap.size wr
  c0 : wr.cell? ⟨w.heap.size + 1, 0, none⟩ = some (.int .i64 o)
  c1 : wr.cell? ⟨w.heap.size + 1, 1, none⟩ = some (.int .i64 f.s)
  c2 : wr.cell? ⟨w.heap.size + 1, 2, none⟩ = some (.int .i64 f.t)
  c3 : wr.cell? ⟨w.heap.size + 1, 3, none⟩ = some (.int .i64 f.d)
  c4 : wr.cell? ⟨w.heap.size + 1, 4, none⟩ = some (.int .u32 f.m)
  fz : ∀ j, wr.frozen? ⟨w.heap.size + 1, j, none⟩ = false
  bel : Below w.heap.size w wr
section
variable {w wr : World} {l : List UInt8} {p : Nat} {o : Int} {f : F}
theorem PInv.size (E : PInv w wr l p o f) : w.heap.size + 1 + 1 < wr.heap.size := some_lt E.it
theorem PInv.next (E : PInv w wr l p o f) (j : Nat) : PInv w (wr.iterAt (w.heap.size + 1 + 1) ⟨l.toArray⟩ j) l j o f := by
  have c : ∀ {b i : Nat} {v : Value}, b ≠ w.heap.size + 1 + 1 → wr.cell? ⟨b, i, none⟩ = some v → (wr.iterAt (w.heap.size + 1 + 1) ⟨l.toArray⟩ j).cell? ⟨b, i, none⟩ = some v := fun hb h => by
    rw [World.cell?_of_block (w := wr) (Lib.iterAt_other wr _ _ _ _ hb)]; exact h
  have g : ∀ {b i : Nat}, b ≠ w.heap.size + 1 + 1 → wr.frozen? ⟨b, i, none⟩ = false → (wr.iterAt (w.heap.size + 1 + 1) ⟨l.toArray⟩ j).frozen? ⟨b, i, none⟩ = false := fun hb h => by
    rw [World.frozen?_of_block (w := wr) (Lib.iterAt_other wr _ _ _ _ hb)]; exact h
  exact ⟨Lib.iterAt_heap wr _ _ p _ E.it, ⟨c (by omega) E.z.z0, c (by omega) E.z.z1, c (by omega) E.z.z2, c (by omega) E.z.z3, c (by omega) E.z.z4, fun j => g (by omega) (E.z.fz j)⟩,
    c (by omega) E.c0, c (by omega) E.c1, c (by omega) E.c2, c (by omega) E.c3, c (by omega) E.c4, fun j => g (by omega) (E.fz j), Lib.below_iterAt E.bel (by omega) _ _⟩
theorem PInv.grow (E : PInv w wr l p o f) {w1 : World} (h : Below wr.heap.size wr w1) : PInv w w1 l p o f := by
  have hs := E.size
  exact ⟨row_stays h (Nat.le_refl _) E.it, E.z.stays h (by omega), cell_stays h (Nat.le_refl _) E.c0, cell_stays h (Nat.le_refl _) E.c1, cell_stays h (Nat.le_refl _) E.c2, cell_stays h (Nat.le_refl _) E.c3, cell_stays h (Nat.le_refl _) E.c4,
    fun j => (h.frozen (p := ⟨w.heap.size + 1, j, none⟩) (by show w.heap.size + 1 < _; omega)).trans (E.fz j), E.bel.trans (h.mono E.bel.size)⟩
theorem PInv.drewN (E : PInv w wr l p o f) (n : Nat) : PInv w (wr.drewN n) l p o f := E.grow ((Below.refl _ _).trans ⟨rfl, rfl, rfl, Nat.le_refl _, fun _ _ => rfl⟩)
theorem PInv.putS (E : PInv w wr l p o f) (v : Int) : PInv w (wr.setCell ⟨w.heap.size + 1, 1, none⟩ (.int .i64 v)) l p o { f with s := v } := by
  have z := E.z
  have c : ∀ {q : Nat} {u : Value}, q ≠ 1 → wr.cell? ⟨w.heap.size + 1, q, none⟩ = some u → (wr.setCell ⟨w.heap.size + 1, 1, none⟩ (.int .i64 v)).cell? ⟨w.heap.size + 1, q, none⟩ = some u := fun hq h => by
    rw [World.cell?_setCell_other _ _ _ _ (by intro e; injection e with e1 e2; exact hq e2.symm)]; exact h
  exact ⟨by rw [Below.heap_setCell _ _ _ _ (by show _ ≠ w.heap.size + 1; omega)]; exact E.it,
    ⟨by rw [World.cell?_setCell_other _ _ _ _ (by simp)]; exact z.z0, by rw [World.cell?_setCell_other _ _ _ _ (by simp)]; exact z.z1, by rw [World.cell?_setCell_other _ _ _ _ (by simp)]; exact z.z2, by rw [World.cell?_setCell_other _ _ _ _ (by simp)]; exact z.z3, by rw [World.cell?_setCell_other _ _ _ _ (by simp)]; exact z.z4, fun j => by simpa using z.fz j⟩,
    c (by decide) E.c0, World.cell?_setCell_same _ _ _ E.c1, c (by decide) E.c2, c (by decide) E.c3, c (by decide) E.c4, fun j => by simpa using E.fz j, E.bel.setCell (by show w.heap.size ≤ w.heap.size + 1; omega) _⟩
theorem PInv.putT (E : PInv w wr l p o f) (v : Int) : PInv w (wr.setCell ⟨w.heap.size + 1, 2, none⟩ (.int .i64 v)) l p o { f with t := v } := by
  have z := E.z
  have c : ∀ {q : Nat} {u : Value}, q ≠ 2 → wr.cell? ⟨w.heap.size + 1, q, none⟩ = some u → (wr.setCell ⟨w.heap.size + 1, 2, none⟩ (.int .i64 v)).cell? ⟨w.heap.size + 1, q, none⟩ = some u := fun hq h => by
    rw [World.cell?_setCell_other _ _ _ _ (by intro e; injection e with e1 e2; exact hq e2.symm)]; exact h
  exact ⟨by rw [Below.heap_setCell _ _ _ _ (by show _ ≠ w.heap.size + 1; omega)]; exact E.it,
    ⟨by rw [World.cell?_setCell_other _ _ _ _ (by simp)]; exact z.z0, by rw [World.cell?_setCell_other _ _ _ _ (by simp)]; exact z.z1, by rw [World.cell?_setCell_other _ _ _ _ (by simp)]; exact z.z2, by rw [World.cell?_setCell_other _ _ _ _ (by simp)]; exact z.z3, by rw [World.cell?_setCell_other _ _ _ _ (by simp)]; exact z.z4, fun j => by simpa using z.fz j⟩,
    c (by decide) E.c0, c (by decide) E.c1, World.cell?_setCell_same _ _ _ E.c2, c (by decide) E.c3, c (by decide) E.c4, fun j => by simpa using E.fz j, E.bel.setCell (by show w.heap.size ≤ w.heap.size + 1; omega) _⟩
theorem PInv.putD (E : PInv w wr l p o f) (v : Int) : PInv w (wr.setCell ⟨w.heap.size + 1, 3, none⟩ (.int .i64 v)) l p o { f with d := v } := by
  have z := E.z
  have c : ∀ {q : Nat} {u : Value}, q ≠ 3 → wr.cell? ⟨w.heap.size + 1, q, none⟩ = some u → (wr.setCell ⟨w.heap.size + 1, 3, none⟩ (.int .i64 v)).cell? ⟨w.heap.size + 1, q, none⟩ = some u := fun hq h => by
    rw [World.cell?_setCell_other _ _ _ _ (by intro e; injection e with e1 e2; exact hq e2.symm)]; exact h
  exact ⟨by rw [Below.heap_setCell _ _ _ _ (by show _ ≠ w.heap.size + 1; omega)]; exact E.it,
    ⟨by rw [World.cell?_setCell_other _ _ _ _ (by simp)]; exact z.z0, by rw [World.cell?_setCell_other _ _ _ _ (by simp)]; exact z.z1, by rw [World.cell?_setCell_other _ _ _ _ (by simp)]; exact z.z2, by rw [World.cell?_setCell_other _ _ _ _ (by simp)]; exact z.z3, by rw [World.cell?_setCell_other _ _ _ _ (by simp)]; exact z.z4, fun j => by simpa using z.fz j⟩,
    c (by decide) E.c0, c (by decide) E.c1, c (by decide) E.c2, World.cell?_setCell_same _ _ _ E.c3, c (by decide) E.c4, fun j => by simpa using E.fz j, E.bel.setCell (by show w.heap.size ≤ w.heap.size + 1; omega) _⟩
theorem PInv.putM (E : PInv w wr l p o f) (v : Int) : PInv w (wr.setCell ⟨w.heap.size + 1, 4, none⟩ (.int .u32 v)) l p o { f with m := v } := by
  have z := E.z
  have c : ∀ {q : Nat} {u : Value}, q ≠ 4 → wr.cell? ⟨w.heap.size + 1, q, none⟩ = some u → (wr.setCell ⟨w.heap.size + 1, 4, none⟩ (.int .u32 v)).cell? ⟨w.heap.size + 1, q, none⟩ = some u := fun hq h => by
    rw [World.cell?_setCell_other _ _ _ _ (by intro e; injection e with e1 e2; exact hq e2.symm)]; exact h
  exact ⟨by rw [Below.heap_setCell _ _ _ _ (by show _ ≠ w.heap.size + 1; omega)]; exact E.it,
    ⟨by rw [World.cell?_setCell_other _ _ _ _ (by simp)]; exact z.z0, by rw [World.cell?_setCell_other _ _ _ _ (by simp)]; exact z.z1, by rw [World.cell?_setCell_other _ _ _ _ (by simp)]; exact z.z2, by rw [World.cell?_setCell_other _ _ _ _ (by simp)]; exact z.z3, by rw [World.cell?_setCell_other _ _ _ _ (by simp)]; exact z.z4, fun j => by simpa using z.fz j⟩,
    c (by decide) E.c0, c (by decide) E.c1, c (by decide) E.c2, c (by decide) E.c3, World.cell?_setCell_same _ _ _ E.c4, fun j => by simpa using E.fz j, E.bel.setCell (by show w.heap.size ≤ w.heap.size + 1; omega) _⟩
end
theorem put_inv {w wr : World} {l : List UInt8} {p : Nat} {o : Int} {f : F} (E : PInv w wr l p o f) (c : UInt8) (n : Int) (n0 : -9223372036854775808 ≤ n) (n1 : n ≤ 9223372036854775807) :
    Calls Tryz.prog 37 #[.pointer (some ⟨w.heap.size + 1, 0, none⟩), .int .i32 c.toNat, .int .i64 n] wr fun e w' => ∃ f', e = .returned (.bool (put c n (some f)).isSome) ∧ (∀ g, put c n (some f) = some g → f' = g) ∧ PInv w w' l p o f' := by
  cases h : numB c with
  | false =>
    refine (putN (w.heap.size + 1) _ n (num_ne h 83 (by decide)) (num_ne h 84 (by decide)) (num_ne h 68 (by decide)) (num_ne h 97 (by decide)) (num_ne h 105 (by decide)) (num_ne h 117 (by decide)) (num_ne h 106 (by decide)) wr).mono ?_
    rintro e w' ⟨rfl, rfl⟩
    refine ⟨f, ?_, ?_, E⟩
    · rw [put, if_neg (by rw [h]; decide)]; rfl
    · intro g hg; rw [put, if_neg (by rw [h]; decide)] at hg; injection hg
  | true =>
    rcases num_cases h with rfl | rfl | rfl | rfl | rfl | rfl | rfl
    · by_cases hb : 0 ≤ n ∧ n ≤ 31
      · have hin : inB 83 n = true := by unfold inB; rw [decide_eq_true_eq]; exact hb
        refine (put83_in (w.heap.size + 1) n hb.1 hb.2 wr _ E.c1 (E.fz 1)).mono ?_
        rintro e w' ⟨rfl, rfl⟩
        refine ⟨setF f 83 n, ?_, ?_, ?_⟩
        · rw [put, if_pos h, if_pos hin]; rfl
        · intro g hg; rw [put, if_pos h, if_pos hin] at hg; injection hg
        · exact E.putS n
      · have hin : ¬ inB 83 n = true := by unfold inB; rw [decide_eq_true_eq]; exact hb
        refine (put83_out (w.heap.size + 1) n n0 n1 (by omega) wr).mono ?_
        rintro e w' ⟨rfl, rfl⟩
        refine ⟨f, ?_, ?_, E⟩
        · rw [put, if_pos h, if_neg hin]; rfl
        · intro g hg; rw [put, if_pos h, if_neg hin] at hg; cases hg
    · by_cases hb : 0 ≤ n ∧ n ≤ 31
      · have hin : inB 84 n = true := by unfold inB; rw [decide_eq_true_eq]; exact hb
        refine (put84_in (w.heap.size + 1) n hb.1 hb.2 wr _ E.c2 (E.fz 2)).mono ?_
        rintro e w' ⟨rfl, rfl⟩
        refine ⟨setF f 84 n, ?_, ?_, ?_⟩
        · rw [put, if_pos h, if_pos hin]; rfl
        · intro g hg; rw [put, if_pos h, if_pos hin] at hg; injection hg
        · exact E.putT n
      · have hin : ¬ inB 84 n = true := by unfold inB; rw [decide_eq_true_eq]; exact hb
        refine (put84_out (w.heap.size + 1) n n0 n1 (by omega) wr).mono ?_
        rintro e w' ⟨rfl, rfl⟩
        refine ⟨f, ?_, ?_, E⟩
        · rw [put, if_pos h, if_neg hin]; rfl
        · intro g hg; rw [put, if_pos h, if_neg hin] at hg; cases hg
    · by_cases hb : 0 ≤ n ∧ n ≤ 31
      · have hin : inB 68 n = true := by unfold inB; rw [decide_eq_true_eq]; exact hb
        refine (put68_in (w.heap.size + 1) n hb.1 hb.2 wr _ E.c3 (E.fz 3)).mono ?_
        rintro e w' ⟨rfl, rfl⟩
        refine ⟨setF f 68 n, ?_, ?_, ?_⟩
        · rw [put, if_pos h, if_pos hin]; rfl
        · intro g hg; rw [put, if_pos h, if_pos hin] at hg; injection hg
        · exact E.putD n
      · have hin : ¬ inB 68 n = true := by unfold inB; rw [decide_eq_true_eq]; exact hb
        refine (put68_out (w.heap.size + 1) n n0 n1 (by omega) wr).mono ?_
        rintro e w' ⟨rfl, rfl⟩
        refine ⟨f, ?_, ?_, E⟩
        · rw [put, if_pos h, if_neg hin]; rfl
        · intro g hg; rw [put, if_pos h, if_neg hin] at hg; cases hg
    · by_cases hb : 0 ≤ n ∧ n ≤ 31
      · have hin : inB 97 n = true := by unfold inB; rw [decide_eq_true_eq]; exact hb
        refine (put97_in (w.heap.size + 1) n hb.1 hb.2 wr _ E.c4 (E.fz 4)).mono ?_
        rintro e w' ⟨rfl, rfl⟩
        refine ⟨setF f 97 n, ?_, ?_, ?_⟩
        · rw [put, if_pos h, if_pos hin]; rfl
        · intro g hg; rw [put, if_pos h, if_pos hin] at hg; injection hg
        · have e : setF f 97 n = { f with m := n } := by show ({ f with m := n % 4294967296 } : F) = _; rw [Int.emod_eq_of_lt (by omega) (by omega)]
          rw [e]; exact E.putM n
      · have hin : ¬ inB 97 n = true := by unfold inB; rw [decide_eq_true_eq]; exact hb
        refine (put97_out (w.heap.size + 1) n n0 n1 (by omega) wr).mono ?_
        rintro e w' ⟨rfl, rfl⟩
        refine ⟨f, ?_, ?_, E⟩
        · rw [put, if_pos h, if_neg hin]; rfl
        · intro g hg; rw [put, if_pos h, if_neg hin] at hg; cases hg
    · by_cases hb : -32768 ≤ n ∧ n ≤ 32767
      · have hin : inB 105 n = true := by unfold inB; rw [decide_eq_true_eq]; exact hb
        refine (put105_in (w.heap.size + 1) n hb.1 hb.2 wr _ E.c4 (E.fz 4)).mono ?_
        rintro e w' ⟨rfl, rfl⟩
        refine ⟨setF f 105 n, ?_, ?_, ?_⟩
        · rw [put, if_pos h, if_pos hin]; rfl
        · intro g hg; rw [put, if_pos h, if_pos hin] at hg; injection hg
        · exact (E.putM _).putM _
      · have hin : ¬ inB 105 n = true := by unfold inB; rw [decide_eq_true_eq]; exact hb
        refine (put105_out (w.heap.size + 1) n n0 n1 (by omega) wr).mono ?_
        rintro e w' ⟨rfl, rfl⟩
        refine ⟨f, ?_, ?_, E⟩
        · rw [put, if_pos h, if_neg hin]; rfl
        · intro g hg; rw [put, if_pos h, if_neg hin] at hg; cases hg
    · by_cases hb : 0 ≤ n ∧ n ≤ 65535
      · have hin : inB 117 n = true := by unfold inB; rw [decide_eq_true_eq]; exact hb
        refine (put117_in (w.heap.size + 1) n hb.1 hb.2 wr _ E.c4 (E.fz 4)).mono ?_
        rintro e w' ⟨rfl, rfl⟩
        refine ⟨setF f 117 n, ?_, ?_, ?_⟩
        · rw [put, if_pos h, if_pos hin]; rfl
        · intro g hg; rw [put, if_pos h, if_pos hin] at hg; injection hg
        · have e : setF f 117 n = { f with m := n } := by show ({ f with m := n % 4294967296 } : F) = _; rw [Int.emod_eq_of_lt (by omega) (by omega)]
          rw [e]; exact E.putM n
      · have hin : ¬ inB 117 n = true := by unfold inB; rw [decide_eq_true_eq]; exact hb
        refine (put117_out (w.heap.size + 1) n n0 n1 (by omega) wr).mono ?_
        rintro e w' ⟨rfl, rfl⟩
        refine ⟨f, ?_, ?_, E⟩
        · rw [put, if_pos h, if_neg hin]; rfl
        · intro g hg; rw [put, if_pos h, if_neg hin] at hg; cases hg
    · by_cases hb : 0 ≤ n ∧ n ≤ 67108863
      · have hin : inB 106 n = true := by unfold inB; rw [decide_eq_true_eq]; exact hb
        refine (put106_in (w.heap.size + 1) n hb.1 hb.2 wr _ E.c4 (E.fz 4)).mono ?_
        rintro e w' ⟨rfl, rfl⟩
        refine ⟨setF f 106 n, ?_, ?_, ?_⟩
        · rw [put, if_pos h, if_pos hin]; rfl
        · intro g hg; rw [put, if_pos h, if_pos hin] at hg; injection hg
        · have e : setF f 106 n = { f with m := n } := by show ({ f with m := n % 4294967296 } : F) = _; rw [Int.emod_eq_of_lt (by omega) (by omega)]
          rw [e]; exact E.putM n
      · have hin : ¬ inB 106 n = true := by unfold inB; rw [decide_eq_true_eq]; exact hb
        refine (put106_out (w.heap.size + 1) n n0 n1 (by omega) wr).mono ?_
        rintro e w' ⟨rfl, rfl⟩
        refine ⟨f, ?_, ?_, E⟩
        · rw [put, if_pos h, if_neg hin]; rfl
        · intro g hg; rw [put, if_pos h, if_neg hin] at hg; cases hg
end Go.Proofs.YtccnliihdhnckaaGreatDoor
