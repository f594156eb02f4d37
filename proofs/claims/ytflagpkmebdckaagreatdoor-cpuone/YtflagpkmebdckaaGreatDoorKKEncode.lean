/-
  What package code's Encode answers: the word of an instruction, or an error.
-/
import Derived.Lib.OthersKept
import Derived.Handy
import Derived.Deep.RegionWith
import Derived.Test.YtflagpkmebdckaaGreatDoorKNum
import Derived.Test.YtflagpkmebdckaaGreatDoorQKEnc
import Derived.Test.YtflagpkmebdckaaGreatDoorKIrChk2
import Derived.Test.YtflagpkmebdckaaGreatDoorKPlPure
import Derived.Test.YtflagpkmebdckaaGreatDoorKIrRes
namespace Go.Proofs.YtflagpkmebdckaaGreatDoor.K
open Go.RowKit Go.Extern.Stop Go.Stop Go.Extern
open Num Tab
set_option linter.unusedVariables false
/-- what Encode reads of the program's variables -/
structure Tb (pk pb : Addr) (w : World) : Prop where
  kind : w.cell? ⟨5, 0, none⟩ = some (.iface 332 (.pointer (some pk)))
  bound : w.cell? ⟨0, 0, none⟩ = some (.iface 332 (.pointer (some pb)))
  ft : FT w
theorem Tb.stays {pk pb : Addr} {w w' : World} {B : Nat} (t : Tb pk pb w) (h : Below B w w') (hB : w.heap.size ≤ B) : Tb pk pb w' :=
  ⟨cell_stays h hB t.kind, cell_stays h hB t.bound, t.ft.stays h hB⟩
theorem Tb.size {pk pb : Addr} {w : World} (t : Tb pk pb w) : 10 < w.heap.size := cell_lt (t.ft 0 (by omega))
/-- an instruction as a value -/
abbrev ins (o s t d m : Int) : Value := .agg #[.int .i64 o, .int .i64 s, .int .i64 t, .int .i64 d, .int .u32 m]
theorem isOp_in (o : Int) (h : 0 < o ∧ o < 54) (w : World) : Calls Tryz.prog 158 #[.int .i64 o] w fun e w' => e = .returned (.bool true) ∧ w' = w := by
  refine (isOp_any o w).mono ?_
  rintro e w' ⟨rfl, rfl⟩
  exact ⟨by rw [decide_eq_true h], rfl⟩
theorem isOp_out (o : Int) (h : ¬ (0 < o ∧ o < 54)) (w : World) : Calls Tryz.prog 158 #[.int .i64 o] w fun e w' => e = .returned (.bool false) ∧ w' = w := by
  refine (isOp_any o w).mono ?_
  rintro e w' ⟨rfl, rfl⟩
  exact ⟨by rw [decide_eq_false h], rfl⟩
set_option maxHeartbeats 1000000 in
theorem encode_kind (pk pb : Addr) (o s t d m : Int) (h : ¬ (0 < o ∧ o < 54)) (w : World) (T : Tb pk pb w) :
    Calls Tryz.prog 105 #[ins o s t d m] w fun e w' => e = .returned (.tuple #[.int .u32 0, .iface 332 (.pointer (some pk))]) ∧ Below w.heap.size w w' := by
  have hk := T.kind
  have hz := T.size
  have hzF : 10 < w.heap.size := by omega
  have hzK : 5 < w.heap.size := by omega
  have hzB : 0 < w.heap.size := by omega
  have hz0 : 0 < w.heap.size := by omega
  have HT : Hid (Tb pk pb w) := T
  clear T
  go_enter Tryz.func105, Tryz.ntmps105
  go_wp2_with (go_at_call 158; refine (isOp_out _ h _).mono ?_; rintro e w' ⟨rfl, rfl⟩)
  go_region
  go_wp2
  go_ret2
  exact ⟨rfl, ((Below.refl _ _).alloc (Nat.le_refl _) _).drew⟩
theorem fields_nat (k : Nat) (hk : k < 54) (w : World) : Calls Tryz.prog 155 #[.int .i64 k] w fun e w' => e = .returned (.string ⟨(lt (sh k)).toArray⟩) ∧ w' = w := by
  have h : fieldsI k = lt (sh k) := by unfold fieldsI; rw [if_pos (by omega)]; rfl
  rw [← h]; exact fields_any k w
/-- the loop's world -/
structure EInv (B : Nat) (w wr : World) (l : List UInt8) (p : Nat) (o s t d m rs rt rd rm : Int) : Prop where
  it : wr.heap[B + 1 + 1]? = some (.stringIter ⟨l.toArray⟩ p)
  i0 : wr.cell? ⟨B, 0, none⟩ = some (.int .i64 o)
  i1 : wr.cell? ⟨B, 1, none⟩ = some (.int .i64 s)
  i2 : wr.cell? ⟨B, 2, none⟩ = some (.int .i64 t)
  i3 : wr.cell? ⟨B, 3, none⟩ = some (.int .i64 d)
  i4 : wr.cell? ⟨B, 4, none⟩ = some (.int .u32 m)
  r0 : wr.cell? ⟨B + 1, 0, none⟩ = some (.int .i64 o)
  r1 : wr.cell? ⟨B + 1, 1, none⟩ = some (.int .i64 rs)
  r2 : wr.cell? ⟨B + 1, 2, none⟩ = some (.int .i64 rt)
  r3 : wr.cell? ⟨B + 1, 3, none⟩ = some (.int .i64 rd)
  r4 : wr.cell? ⟨B + 1, 4, none⟩ = some (.int .u32 rm)
  fz : ∀ j, wr.frozen? ⟨B + 1, j, none⟩ = false
  bel : Below B w wr
section
variable {B : Nat} {w wr : World} {l : List UInt8} {p : Nat} {o s t d m rs rt rd rm : Int}
theorem EInv.size (E : EInv B w wr l p o s t d m rs rt rd rm) : B + 1 + 1 < wr.heap.size := some_lt E.it
theorem EInv.next (E : EInv B w wr l p o s t d m rs rt rd rm) (q : Nat) : EInv B w (wr.iterAt (B + 1 + 1) ⟨l.toArray⟩ q) l q o s t d m rs rt rd rm := by
  have c : ∀ {b j : Nat} {v : Value}, b ≠ B + 1 + 1 → wr.cell? ⟨b, j, none⟩ = some v → (wr.iterAt (B + 1 + 1) ⟨l.toArray⟩ q).cell? ⟨b, j, none⟩ = some v := fun hb h => by
    rw [World.cell?_of_block (w := wr) (Lib.iterAt_other wr (B + 1 + 1) _ _ _ hb)]; exact h
  exact ⟨Lib.iterAt_heap wr _ _ p _ E.it, c (by omega) E.i0, c (by omega) E.i1, c (by omega) E.i2, c (by omega) E.i3, c (by omega) E.i4, c (by omega) E.r0, c (by omega) E.r1, c (by omega) E.r2, c (by omega) E.r3, c (by omega) E.r4,
    fun j => by rw [World.frozen?_of_block (w := wr) (Lib.iterAt_other wr (B + 1 + 1) _ _ _ (by show B + 1 ≠ _; omega))]; exact E.fz j, Lib.below_iterAt E.bel (by omega) _ _⟩
theorem EInv.grow (E : EInv B w wr l p o s t d m rs rt rd rm) {w1 : World} (h : Below wr.heap.size wr w1) : EInv B w w1 l p o s t d m rs rt rd rm := by
  have z := E.size
  have c : ∀ {a : Addr} {v : Value}, wr.cell? a = some v → w1.cell? a = some v := fun e => cell_stays h (Nat.le_refl _) e
  exact ⟨row_stays h (Nat.le_refl _) E.it, c E.i0, c E.i1, c E.i2, c E.i3, c E.i4, c E.r0, c E.r1, c E.r2, c E.r3, c E.r4,
    fun j => by rw [h.frozen (p := ⟨B + 1, j, none⟩) (by show B + 1 < _; omega)]; exact E.fz j, E.bel.trans (h.mono (by omega))⟩
theorem EInv.putS (E : EInv B w wr l p o s t d m rs rt rd rm) (v : Int) : EInv B w (wr.setCell ⟨B + 1, 1, none⟩ (.int .i64 v)) l p o s t d m v rt rd rm := by
  have a : ∀ {b q : Nat} {u : Value}, b ≠ B + 1 → wr.cell? ⟨b, q, none⟩ = some u → (wr.setCell ⟨B + 1, 1, none⟩ (.int .i64 v)).cell? ⟨b, q, none⟩ = some u := fun hb h => by
    rw [World.cell?_of_block (w := wr) (Below.heap_setCell wr _ _ _ hb)]; exact h
  have c : ∀ {q : Nat} {u : Value}, q ≠ 1 → wr.cell? ⟨B + 1, q, none⟩ = some u → (wr.setCell ⟨B + 1, 1, none⟩ (.int .i64 v)).cell? ⟨B + 1, q, none⟩ = some u := fun hq h => by
    rw [World.cell?_setCell_other _ _ _ _ (by intro e; injection e with e1 e2; exact hq e2.symm)]; exact h
  exact ⟨by rw [Below.heap_setCell wr _ _ _ (by show B + 1 + 1 ≠ B + 1; omega)]; exact E.it, a (by omega) E.i0, a (by omega) E.i1, a (by omega) E.i2, a (by omega) E.i3, a (by omega) E.i4, c (by decide) E.r0, World.cell?_setCell_same _ _ _ E.r1, c (by decide) E.r2, c (by decide) E.r3, c (by decide) E.r4,
    fun q => by simpa using E.fz q, E.bel.setCell (by show B ≤ B + 1; omega) _⟩
theorem EInv.putT (E : EInv B w wr l p o s t d m rs rt rd rm) (v : Int) : EInv B w (wr.setCell ⟨B + 1, 2, none⟩ (.int .i64 v)) l p o s t d m rs v rd rm := by
  have a : ∀ {b q : Nat} {u : Value}, b ≠ B + 1 → wr.cell? ⟨b, q, none⟩ = some u → (wr.setCell ⟨B + 1, 2, none⟩ (.int .i64 v)).cell? ⟨b, q, none⟩ = some u := fun hb h => by
    rw [World.cell?_of_block (w := wr) (Below.heap_setCell wr _ _ _ hb)]; exact h
  have c : ∀ {q : Nat} {u : Value}, q ≠ 2 → wr.cell? ⟨B + 1, q, none⟩ = some u → (wr.setCell ⟨B + 1, 2, none⟩ (.int .i64 v)).cell? ⟨B + 1, q, none⟩ = some u := fun hq h => by
    rw [World.cell?_setCell_other _ _ _ _ (by intro e; injection e with e1 e2; exact hq e2.symm)]; exact h
  exact ⟨by rw [Below.heap_setCell wr _ _ _ (by show B + 1 + 1 ≠ B + 1; omega)]; exact E.it, a (by omega) E.i0, a (by omega) E.i1, a (by omega) E.i2, a (by omega) E.i3, a (by omega) E.i4, c (by decide) E.r0, c (by decide) E.r1, World.cell?_setCell_same _ _ _ E.r2, c (by decide) E.r3, c (by decide) E.r4,
    fun q => by simpa using E.fz q, E.bel.setCell (by show B ≤ B + 1; omega) _⟩
theorem EInv.putD (E : EInv B w wr l p o s t d m rs rt rd rm) (v : Int) : EInv B w (wr.setCell ⟨B + 1, 3, none⟩ (.int .i64 v)) l p o s t d m rs rt v rm := by
  have a : ∀ {b q : Nat} {u : Value}, b ≠ B + 1 → wr.cell? ⟨b, q, none⟩ = some u → (wr.setCell ⟨B + 1, 3, none⟩ (.int .i64 v)).cell? ⟨b, q, none⟩ = some u := fun hb h => by
    rw [World.cell?_of_block (w := wr) (Below.heap_setCell wr _ _ _ hb)]; exact h
  have c : ∀ {q : Nat} {u : Value}, q ≠ 3 → wr.cell? ⟨B + 1, q, none⟩ = some u → (wr.setCell ⟨B + 1, 3, none⟩ (.int .i64 v)).cell? ⟨B + 1, q, none⟩ = some u := fun hq h => by
    rw [World.cell?_setCell_other _ _ _ _ (by intro e; injection e with e1 e2; exact hq e2.symm)]; exact h
  exact ⟨by rw [Below.heap_setCell wr _ _ _ (by show B + 1 + 1 ≠ B + 1; omega)]; exact E.it, a (by omega) E.i0, a (by omega) E.i1, a (by omega) E.i2, a (by omega) E.i3, a (by omega) E.i4, c (by decide) E.r0, c (by decide) E.r1, c (by decide) E.r2, World.cell?_setCell_same _ _ _ E.r3, c (by decide) E.r4,
    fun q => by simpa using E.fz q, E.bel.setCell (by show B ≤ B + 1; omega) _⟩
theorem EInv.putM (E : EInv B w wr l p o s t d m rs rt rd rm) (v : Int) : EInv B w (wr.setCell ⟨B + 1, 4, none⟩ (.int .u32 v)) l p o s t d m rs rt rd v := by
  have a : ∀ {b q : Nat} {u : Value}, b ≠ B + 1 → wr.cell? ⟨b, q, none⟩ = some u → (wr.setCell ⟨B + 1, 4, none⟩ (.int .u32 v)).cell? ⟨b, q, none⟩ = some u := fun hb h => by
    rw [World.cell?_of_block (w := wr) (Below.heap_setCell wr _ _ _ hb)]; exact h
  have c : ∀ {q : Nat} {u : Value}, q ≠ 4 → wr.cell? ⟨B + 1, q, none⟩ = some u → (wr.setCell ⟨B + 1, 4, none⟩ (.int .u32 v)).cell? ⟨B + 1, q, none⟩ = some u := fun hq h => by
    rw [World.cell?_setCell_other _ _ _ _ (by intro e; injection e with e1 e2; exact hq e2.symm)]; exact h
  exact ⟨by rw [Below.heap_setCell wr _ _ _ (by show B + 1 + 1 ≠ B + 1; omega)]; exact E.it, a (by omega) E.i0, a (by omega) E.i1, a (by omega) E.i2, a (by omega) E.i3, a (by omega) E.i4, c (by decide) E.r0, c (by decide) E.r1, c (by decide) E.r2, c (by decide) E.r3, World.cell?_setCell_same _ _ _ E.r4,
    fun q => by simpa using E.fz q, E.bel.setCell (by show B ≤ B + 1; omega) _⟩
theorem EInv.start (w : World) (l : List UInt8) (o s t d m : Int) : EInv w.heap.size w (((w.alloc (.cells #[.int .i64 o, .int .i64 s, .int .i64 t, .int .i64 d, .int .u32 m] 113)).alloc (.cells #[.int .i64 o, .int .i64 s, .int .i64 t, .int .i64 d, .int .u32 m] 113)).drew.iter ⟨l.toArray⟩ 0) l 0 o s t d m s t d m := by
  have c : ∀ (W : World) (b j : Nat), b < W.heap.size → (W.iter ⟨l.toArray⟩ 0).cell? ⟨b, j, none⟩ = W.cell? ⟨b, j, none⟩ := fun W b j hb => by
    unfold World.iter; rw [World.cell?_alloc_lt _ _ _ hb]
  have f : ∀ (W : World) (b j : Nat), b < W.heap.size → (W.iter ⟨l.toArray⟩ 0).frozen? ⟨b, j, none⟩ = W.frozen? ⟨b, j, none⟩ := fun W b j hb =>
    World.frozen?_of_block (w := W) (Below.heap_alloc _ _ _ hb)
  refine ⟨?_, by rw [c _ _ _ (by simp; try omega)]; simp, by rw [c _ _ _ (by simp; try omega)]; simp, by rw [c _ _ _ (by simp; try omega)]; simp, by rw [c _ _ _ (by simp; try omega)]; simp, by rw [c _ _ _ (by simp; try omega)]; simp, by rw [c _ _ _ (by simp; try omega)]; simp, by rw [c _ _ _ (by simp; try omega)]; simp, by rw [c _ _ _ (by simp; try omega)]; simp, by rw [c _ _ _ (by simp; try omega)]; simp, by rw [c _ _ _ (by simp; try omega)]; simp, fun j => by rw [f _ _ _ (by simp)]; simp, ?_⟩
  · have := World.iter_heap ((w.alloc (.cells #[.int .i64 o, .int .i64 s, .int .i64 t, .int .i64 d, .int .u32 m] 113)).alloc (.cells #[.int .i64 o, .int .i64 s, .int .i64 t, .int .i64 d, .int .u32 m] 113)).drew ⟨l.toArray⟩ 0
    simpa using this
  · exact ((((Below.refl _ _).alloc (Nat.le_refl _) _).alloc (by simp) _).drew).alloc (by simp; omega) _
theorem iterPos_of {w : World} {b : Nat} {s : ByteArray} {p : Nat} (h : w.heap[b]? = some (.stringIter s p)) : w.iterPos b = p := by
  unfold World.iterPos; rw [h]
theorem zS_0 (n : Nat) (s : Int) : zS n 0 s = s := by simp [zS, inL]
theorem zT_0 (n : Nat) (s : Int) : zT n 0 s = s := by simp [zT, inL]
theorem zD_0 (n : Nat) (s : Int) : zD n 0 s = s := by simp [zD, inL]
theorem zM_0 (n : Nat) (s : Int) : zM n 0 s = s := by simp [zM, inL]
end
theorem dec_at (l : List UInt8) (p : Nat) (h : p < l.length) (c : UInt8) (hc : l[p] = c) (hl : c.toNat < 128) (wr : World) (b : Nat) (hit : wr.heap[b]? = some (.stringIter ⟨l.toArray⟩ p)) (ty : TypeId) :
    (Instr.next (.pointer (some ⟨b, 0, none⟩)) true ty).run Tryz.prog wr = .ok (.tuple #[.bool true, .int .i64 p, .int .i32 c.toNat]) (wr.iterAt b ⟨l.toArray⟩ (p + 1)) := by
  have hs : p < (ByteArray.mk l.toArray).size := by simpa [ByteArray.size] using h
  have e : (ByteArray.mk l.toArray)[p]'hs = c := hc
  rw [Lib.run_next_any_at wr b _ p ty hit hs, decode_ascii _ p hs (by rw [e]; exact hl), e]
/-- what Encode answers of an operation's fields -/
def encR (pb : Addr) (k : Nat) (s t d m : Int) : Value := if okB (sh k) s t d m then .tuple #[.int .u32 (enc k s t d m), .nilIface] else .tuple #[.int .u32 0, .iface 332 (.pointer (some pb))]
theorem encR_ok {pb : Addr} {k : Nat} {s t d m : Int} (h : okB (sh k) s t d m = true) : encR pb k s t d m = .tuple #[.int .u32 (enc k s t d m), .nilIface] := by unfold encR; rw [if_pos h]
theorem encR_bad {pb : Addr} {k : Nat} {s t d m : Int} (h : okB (sh k) s t d m = false) : encR pb k s t d m = .tuple #[.int .u32 0, .iface 332 (.pointer (some pb))] := by unfold encR; rw [if_neg (by rw [h]; decide)]
set_option maxHeartbeats 4000000 in
theorem encode_any (pk pb : Addr) (k : Nat) (h1 : 1 ≤ k) (hk : k < 54) (s t d m : Int) (m0 : 0 ≤ m) (m1 : m < 4294967296) (s0 : -9223372036854775808 ≤ s) (s1 : s ≤ 9223372036854775807) (t0 : -9223372036854775808 ≤ t) (t1 : t ≤ 9223372036854775807) (d0 : -9223372036854775808 ≤ d) (d1 : d ≤ 9223372036854775807) (w : World) (T : Tb pk pb w) :
    Calls Tryz.prog 105 #[ins k s t d m] w fun e w' => e = .returned (encR pb k s t d m) ∧ Below w.heap.size w w' := by
  have hz := T.size
  have hzF : 10 < w.heap.size := by omega
  have hzK : 5 < w.heap.size := by omega
  have hzB : 0 < w.heap.size := by omega
  have hz1 : 1 < w.heap.size := by omega
  have hz2 : 1 < w.heap.size + 1 := by omega
  have hop : 0 < (k : Int) ∧ (k : Int) < 54 := by omega
  have g := T.ft k hk
  have k0 : (0 : Int) ≤ k := by omega
  have k1 : (k : Int) < 54 := by omega
  have HT : Hid (Tb pk pb w) := T
  clear T
  have hn := sh_all k hk
  go_enter Tryz.func105, Tryz.ntmps105
  go_wp2_with (go_at_call 158; refine (isOp_in _ hop _).mono ?_; rintro e w' ⟨rfl, rfl⟩)
  go_region
  go_wp2_with (go_at_call 155; refine (fields_nat k hk _).mono ?_; rintro e w' ⟨rfl, rfl⟩)
  go_loopw [4] (fun a wr => ∃ p : Nat, p ≤ (lt (sh k)).length ∧ a = .int .u32 (eacc k s t d m p) ∧ Hid (egood (sh k) s t d m p) ∧ EInv w.heap.size w wr (lt (sh k)) p k s t d m (zS (sh k) p s) (zT (sh k) p t) (zD (sh k) p d) (zM (sh k) p m)) (fun _ wr => (lt (sh k)).length - wr.iterPos (w.heap.size + 1 + 1))
  case atStart =>
    refine ⟨0, Nat.zero_le _, by rw [eacc_0], egood_0 _ _ _ _ _, ?_⟩
    rw [zS_0, zT_0, zD_0, zM_0]
    exact EInv.start w _ k s t d m
  case round =>
    obtain ⟨p, hp, rfl, HG, E⟩ := hrel
    by_cases hlt : p < (lt (sh k)).length
    · rcases letters (sh k) hn p hlt with hc | hc | hc | hc | hc | hc
      · have hnx : ∀ ty, (Instr.next (.pointer (some ⟨w.heap.size + 1 + 1, 0, none⟩)) true ty).run Tryz.prog wr = .ok (.tuple #[.bool true, .int .i64 p, .int .i32 83]) (wr.iterAt (w.heap.size + 1 + 1) ⟨(lt (sh k)).toArray⟩ (p + 1)) := fun ty => dec_at _ p hlt _ hc (by decide) wr _ E.it ty
        have E2 := E.next (p + 1)
        generalize wr.iterAt (w.heap.size + 1 + 1) ⟨(lt (sh k)).toArray⟩ (p + 1) = wr2 at hnx E2
        obtain ⟨q0, q1, q2, q3, q4⟩ := (⟨E2.i0, E2.i1, E2.i2, E2.i3, E2.i4⟩ : _ ∧ _ ∧ _ ∧ _ ∧ _)
        go_wp2_with (go_at_call 156; refine (place83 _).mono ?_; rintro e w' ⟨rfl, rfl⟩)
        refine (take83 k s t d m m0 m1 _).mono ?_
        rintro e w3 ⟨rfl, hb3⟩
        have E3 := E2.grow hb3
        clear q0 q1 q2 q3 q4 hnx
        by_cases hv : 0 ≤ s ∧ s < 32
        · obtain ⟨v0, v1⟩ := hv
          have ST := step83 k hk h1 s t d m m0 p hlt hc HG.out v0 v1
          obtain ⟨st1, st2, st3, st4, st5, st6, st7, st8⟩ := ST
          have HS : Hid (egood (sh k) s t d m (p + 1)) := st2
          have HZ : Hid (zS (sh k) (p + 1) s = 0 ∧ zT (sh k) (p + 1) t = zT (sh k) p t ∧ zD (sh k) (p + 1) d = zD (sh k) p d ∧ zM (sh k) (p + 1) m = zM (sh k) p m) := ⟨st3, st4, st5, st6⟩
          clear st2 st3 st4 st5 st6
          have hu : s % 18446744073709551616 = s := by omega
          go_wp2_with (go_at_call 157; refine (put83 (w.heap.size + 1) 0 (by decide) (by decide) _ _ E3.r1 (E3.fz 1)).mono ?_; rintro e w' ⟨rfl, rfl⟩)
          have E4 := E3.putS 0
          go_roundw
          case rel =>
            refine ⟨p + 1, by omega, rfl, HS.out, ?_⟩
            rw [HZ.out.1, HZ.out.2.1, HZ.out.2.2.1, HZ.out.2.2.2]
            exact E4
          case measure =>
            rw [iterPos_of E4.it, iterPos_of E.it]
            omega
        · have HO : Hid (okB (sh k) s t d m = false) := bad83 (sh k) hn s t d m m0 p hlt hc hv
          have hu : 32 ≤ s % 18446744073709551616 := by omega
          have hbnd : w3.cell? ⟨0, 0, none⟩ = some (.iface 332 (.pointer (some pb))) := (HT.out.stays E3.bel (Nat.le_refl _)).bound
          go_wp2_with fail
          go_region
          all_goals
            go_wp2
            go_ret2
            exact ⟨by rw [encR_bad HO.out]; rfl, E3.bel.drew⟩
      · have hnx : ∀ ty, (Instr.next (.pointer (some ⟨w.heap.size + 1 + 1, 0, none⟩)) true ty).run Tryz.prog wr = .ok (.tuple #[.bool true, .int .i64 p, .int .i32 84]) (wr.iterAt (w.heap.size + 1 + 1) ⟨(lt (sh k)).toArray⟩ (p + 1)) := fun ty => dec_at _ p hlt _ hc (by decide) wr _ E.it ty
        have E2 := E.next (p + 1)
        generalize wr.iterAt (w.heap.size + 1 + 1) ⟨(lt (sh k)).toArray⟩ (p + 1) = wr2 at hnx E2
        obtain ⟨q0, q1, q2, q3, q4⟩ := (⟨E2.i0, E2.i1, E2.i2, E2.i3, E2.i4⟩ : _ ∧ _ ∧ _ ∧ _ ∧ _)
        go_wp2_with (go_at_call 156; refine (place84 _).mono ?_; rintro e w' ⟨rfl, rfl⟩)
        refine (take84 k s t d m m0 m1 _).mono ?_
        rintro e w3 ⟨rfl, hb3⟩
        have E3 := E2.grow hb3
        clear q0 q1 q2 q3 q4 hnx
        by_cases hv : 0 ≤ t ∧ t < 32
        · obtain ⟨v0, v1⟩ := hv
          have ST := step84 k hk h1 s t d m m0 p hlt hc HG.out v0 v1
          obtain ⟨st1, st2, st3, st4, st5, st6, st7, st8⟩ := ST
          have HS : Hid (egood (sh k) s t d m (p + 1)) := st2
          have HZ : Hid (zS (sh k) (p + 1) s = zS (sh k) p s ∧ zT (sh k) (p + 1) t = 0 ∧ zD (sh k) (p + 1) d = zD (sh k) p d ∧ zM (sh k) (p + 1) m = zM (sh k) p m) := ⟨st3, st4, st5, st6⟩
          clear st2 st3 st4 st5 st6
          have hu : t % 18446744073709551616 = t := by omega
          go_wp2_with (go_at_call 157; refine (put84 (w.heap.size + 1) 0 (by decide) (by decide) _ _ E3.r2 (E3.fz 2)).mono ?_; rintro e w' ⟨rfl, rfl⟩)
          have E4 := E3.putT 0
          go_roundw
          case rel =>
            refine ⟨p + 1, by omega, rfl, HS.out, ?_⟩
            rw [HZ.out.1, HZ.out.2.1, HZ.out.2.2.1, HZ.out.2.2.2]
            exact E4
          case measure =>
            rw [iterPos_of E4.it, iterPos_of E.it]
            omega
        · have HO : Hid (okB (sh k) s t d m = false) := bad84 (sh k) hn s t d m m0 p hlt hc hv
          have hu : 32 ≤ t % 18446744073709551616 := by omega
          have hbnd : w3.cell? ⟨0, 0, none⟩ = some (.iface 332 (.pointer (some pb))) := (HT.out.stays E3.bel (Nat.le_refl _)).bound
          go_wp2_with fail
          go_region
          all_goals
            go_wp2
            go_ret2
            exact ⟨by rw [encR_bad HO.out]; rfl, E3.bel.drew⟩
      · have hnx : ∀ ty, (Instr.next (.pointer (some ⟨w.heap.size + 1 + 1, 0, none⟩)) true ty).run Tryz.prog wr = .ok (.tuple #[.bool true, .int .i64 p, .int .i32 68]) (wr.iterAt (w.heap.size + 1 + 1) ⟨(lt (sh k)).toArray⟩ (p + 1)) := fun ty => dec_at _ p hlt _ hc (by decide) wr _ E.it ty
        have E2 := E.next (p + 1)
        generalize wr.iterAt (w.heap.size + 1 + 1) ⟨(lt (sh k)).toArray⟩ (p + 1) = wr2 at hnx E2
        obtain ⟨q0, q1, q2, q3, q4⟩ := (⟨E2.i0, E2.i1, E2.i2, E2.i3, E2.i4⟩ : _ ∧ _ ∧ _ ∧ _ ∧ _)
        go_wp2_with (go_at_call 156; refine (place68 _).mono ?_; rintro e w' ⟨rfl, rfl⟩)
        refine (take68 k s t d m m0 m1 _).mono ?_
        rintro e w3 ⟨rfl, hb3⟩
        have E3 := E2.grow hb3
        clear q0 q1 q2 q3 q4 hnx
        by_cases hv : 0 ≤ d ∧ d < 32
        · obtain ⟨v0, v1⟩ := hv
          have ST := step68 k hk h1 s t d m m0 p hlt hc HG.out v0 v1
          obtain ⟨st1, st2, st3, st4, st5, st6, st7, st8⟩ := ST
          have HS : Hid (egood (sh k) s t d m (p + 1)) := st2
          have HZ : Hid (zS (sh k) (p + 1) s = zS (sh k) p s ∧ zT (sh k) (p + 1) t = zT (sh k) p t ∧ zD (sh k) (p + 1) d = 0 ∧ zM (sh k) (p + 1) m = zM (sh k) p m) := ⟨st3, st4, st5, st6⟩
          clear st2 st3 st4 st5 st6
          have hu : d % 18446744073709551616 = d := by omega
          go_wp2_with (go_at_call 157; refine (put68 (w.heap.size + 1) 0 (by decide) (by decide) _ _ E3.r3 (E3.fz 3)).mono ?_; rintro e w' ⟨rfl, rfl⟩)
          have E4 := E3.putD 0
          go_roundw
          case rel =>
            refine ⟨p + 1, by omega, rfl, HS.out, ?_⟩
            rw [HZ.out.1, HZ.out.2.1, HZ.out.2.2.1, HZ.out.2.2.2]
            exact E4
          case measure =>
            rw [iterPos_of E4.it, iterPos_of E.it]
            omega
        · have HO : Hid (okB (sh k) s t d m = false) := bad68 (sh k) hn s t d m m0 p hlt hc hv
          have hu : 32 ≤ d % 18446744073709551616 := by omega
          have hbnd : w3.cell? ⟨0, 0, none⟩ = some (.iface 332 (.pointer (some pb))) := (HT.out.stays E3.bel (Nat.le_refl _)).bound
          go_wp2_with fail
          go_region
          all_goals
            go_wp2
            go_ret2
            exact ⟨by rw [encR_bad HO.out]; rfl, E3.bel.drew⟩
      · have hnx : ∀ ty, (Instr.next (.pointer (some ⟨w.heap.size + 1 + 1, 0, none⟩)) true ty).run Tryz.prog wr = .ok (.tuple #[.bool true, .int .i64 p, .int .i32 97]) (wr.iterAt (w.heap.size + 1 + 1) ⟨(lt (sh k)).toArray⟩ (p + 1)) := fun ty => dec_at _ p hlt _ hc (by decide) wr _ E.it ty
        have E2 := E.next (p + 1)
        generalize wr.iterAt (w.heap.size + 1 + 1) ⟨(lt (sh k)).toArray⟩ (p + 1) = wr2 at hnx E2
        obtain ⟨q0, q1, q2, q3, q4⟩ := (⟨E2.i0, E2.i1, E2.i2, E2.i3, E2.i4⟩ : _ ∧ _ ∧ _ ∧ _ ∧ _)
        go_wp2_with (go_at_call 156; refine (place97 _).mono ?_; rintro e w' ⟨rfl, rfl⟩)
        refine (take97 k s t d m m0 m1 _).mono ?_
        rintro e w3 ⟨rfl, hb3⟩
        have E3 := E2.grow hb3
        clear q0 q1 q2 q3 q4 hnx
        by_cases hv : 0 ≤ m ∧ m < 32
        · obtain ⟨v0, v1⟩ := hv
          have ST := step97 k hk h1 s t d m m0 p hlt hc HG.out v0 v1
          obtain ⟨st1, st2, st3, st4, st5, st6, st7, st8⟩ := ST
          have HS : Hid (egood (sh k) s t d m (p + 1)) := st2
          have HZ : Hid (zS (sh k) (p + 1) s = zS (sh k) p s ∧ zT (sh k) (p + 1) t = zT (sh k) p t ∧ zD (sh k) (p + 1) d = zD (sh k) p d ∧ zM (sh k) (p + 1) m = 0) := ⟨st3, st4, st5, st6⟩
          clear st2 st3 st4 st5 st6
          go_wp2_with (go_at_call 157; refine (put97 (w.heap.size + 1) 0 (by decide) (by decide) _ _ E3.r4 (E3.fz 4)).mono ?_; rintro e w' ⟨rfl, rfl⟩)
          have E4 := E3.putM 0
          go_roundw
          case rel =>
            refine ⟨p + 1, by omega, rfl, HS.out, ?_⟩
            rw [HZ.out.1, HZ.out.2.1, HZ.out.2.2.1, HZ.out.2.2.2]
            exact E4
          case measure =>
            rw [iterPos_of E4.it, iterPos_of E.it]
            omega
        · have HO : Hid (okB (sh k) s t d m = false) := bad97 (sh k) hn s t d m m0 p hlt hc hv
          have hu : 32 ≤ m := by omega
          have hbnd : w3.cell? ⟨0, 0, none⟩ = some (.iface 332 (.pointer (some pb))) := (HT.out.stays E3.bel (Nat.le_refl _)).bound
          go_wp2_with fail
          go_region
          all_goals
            go_wp2
            go_ret2
            exact ⟨by rw [encR_bad HO.out]; rfl, E3.bel.drew⟩
      · have hnx : ∀ ty, (Instr.next (.pointer (some ⟨w.heap.size + 1 + 1, 0, none⟩)) true ty).run Tryz.prog wr = .ok (.tuple #[.bool true, .int .i64 p, .int .i32 105]) (wr.iterAt (w.heap.size + 1 + 1) ⟨(lt (sh k)).toArray⟩ (p + 1)) := fun ty => dec_at _ p hlt _ hc (by decide) wr _ E.it ty
        have E2 := E.next (p + 1)
        generalize wr.iterAt (w.heap.size + 1 + 1) ⟨(lt (sh k)).toArray⟩ (p + 1) = wr2 at hnx E2
        obtain ⟨q0, q1, q2, q3, q4⟩ := (⟨E2.i0, E2.i1, E2.i2, E2.i3, E2.i4⟩ : _ ∧ _ ∧ _ ∧ _ ∧ _)
        go_wp2_with (go_at_call 156; refine (place105 _).mono ?_; rintro e w' ⟨rfl, rfl⟩)
        refine (take105 k s t d m m0 m1 _).mono ?_
        rintro e w3 ⟨rfl, hb3⟩
        have E3 := E2.grow hb3
        clear q0 q1 q2 q3 q4 hnx
        by_cases hv : 0 ≤ m ∧ m < 65536
        · obtain ⟨v0, v1⟩ := hv
          have ST := step105 k hk h1 s t d m m0 p hlt hc HG.out v0 v1
          obtain ⟨st1, st2, st3, st4, st5, st6, st7, st8⟩ := ST
          have HS : Hid (egood (sh k) s t d m (p + 1)) := st2
          have HZ : Hid (zS (sh k) (p + 1) s = zS (sh k) p s ∧ zT (sh k) (p + 1) t = zT (sh k) p t ∧ zD (sh k) (p + 1) d = zD (sh k) p d ∧ zM (sh k) (p + 1) m = 0) := ⟨st3, st4, st5, st6⟩
          clear st2 st3 st4 st5 st6
          go_wp2_with (go_at_call 157; refine (put105 (w.heap.size + 1) 0 (by decide) (by decide) _ _ E3.r4 (E3.fz 4)).mono ?_; rintro e w' ⟨rfl, rfl⟩)
          have E4 := E3.putM 0
          go_roundw
          case rel =>
            refine ⟨p + 1, by omega, rfl, HS.out, ?_⟩
            rw [HZ.out.1, HZ.out.2.1, HZ.out.2.2.1, HZ.out.2.2.2]
            exact E4
          case measure =>
            rw [iterPos_of E4.it, iterPos_of E.it]
            omega
        · have HO : Hid (okB (sh k) s t d m = false) := bad105 (sh k) hn s t d m m0 p hlt hc hv
          have hu : 65536 ≤ m := by omega
          have hbnd : w3.cell? ⟨0, 0, none⟩ = some (.iface 332 (.pointer (some pb))) := (HT.out.stays E3.bel (Nat.le_refl _)).bound
          go_wp2_with fail
          go_region
          all_goals
            go_wp2
            go_ret2
            exact ⟨by rw [encR_bad HO.out]; rfl, E3.bel.drew⟩
      · have hnx : ∀ ty, (Instr.next (.pointer (some ⟨w.heap.size + 1 + 1, 0, none⟩)) true ty).run Tryz.prog wr = .ok (.tuple #[.bool true, .int .i64 p, .int .i32 106]) (wr.iterAt (w.heap.size + 1 + 1) ⟨(lt (sh k)).toArray⟩ (p + 1)) := fun ty => dec_at _ p hlt _ hc (by decide) wr _ E.it ty
        have E2 := E.next (p + 1)
        generalize wr.iterAt (w.heap.size + 1 + 1) ⟨(lt (sh k)).toArray⟩ (p + 1) = wr2 at hnx E2
        obtain ⟨q0, q1, q2, q3, q4⟩ := (⟨E2.i0, E2.i1, E2.i2, E2.i3, E2.i4⟩ : _ ∧ _ ∧ _ ∧ _ ∧ _)
        go_wp2_with (go_at_call 156; refine (place106 _).mono ?_; rintro e w' ⟨rfl, rfl⟩)
        refine (take106 k s t d m m0 m1 _).mono ?_
        rintro e w3 ⟨rfl, hb3⟩
        have E3 := E2.grow hb3
        clear q0 q1 q2 q3 q4 hnx
        by_cases hv : 0 ≤ m ∧ m < 67108864
        · obtain ⟨v0, v1⟩ := hv
          have ST := step106 k hk h1 s t d m m0 p hlt hc HG.out v0 v1
          obtain ⟨st1, st2, st3, st4, st5, st6, st7, st8⟩ := ST
          have HS : Hid (egood (sh k) s t d m (p + 1)) := st2
          have HZ : Hid (zS (sh k) (p + 1) s = zS (sh k) p s ∧ zT (sh k) (p + 1) t = zT (sh k) p t ∧ zD (sh k) (p + 1) d = zD (sh k) p d ∧ zM (sh k) (p + 1) m = 0) := ⟨st3, st4, st5, st6⟩
          clear st2 st3 st4 st5 st6
          go_wp2_with (go_at_call 157; refine (put106 (w.heap.size + 1) 0 (by decide) (by decide) _ _ E3.r4 (E3.fz 4)).mono ?_; rintro e w' ⟨rfl, rfl⟩)
          have E4 := E3.putM 0
          go_roundw
          case rel =>
            refine ⟨p + 1, by omega, rfl, HS.out, ?_⟩
            rw [HZ.out.1, HZ.out.2.1, HZ.out.2.2.1, HZ.out.2.2.2]
            exact E4
          case measure =>
            rw [iterPos_of E4.it, iterPos_of E.it]
            omega
        · have HO : Hid (okB (sh k) s t d m = false) := bad106 (sh k) hn s t d m m0 p hlt hc hv
          have hu : 67108864 ≤ m := by omega
          have hbnd : w3.cell? ⟨0, 0, none⟩ = some (.iface 332 (.pointer (some pb))) := (HT.out.stays E3.bel (Nat.le_refl _)).bound
          go_wp2_with fail
          go_region
          all_goals
            go_wp2
            go_ret2
            exact ⟨by rw [encR_bad HO.out]; rfl, E3.bel.drew⟩
    · obtain rfl : p = (lt (sh k)).length := by omega
      have hs : ¬ (lt (sh k)).length < (ByteArray.mk (lt (sh k)).toArray).size := by simp [ByteArray.size]
      have hnx : ∀ ty, (Instr.next (.pointer (some ⟨w.heap.size + 1 + 1, 0, none⟩)) true ty).run Tryz.prog wr = .ok (.tuple #[.bool false]) wr := fun ty => Lib.run_next_end_at wr _ _ _ ty E.it hs
      obtain ⟨q0, q1, q2, q3, q4⟩ := (⟨E.r0, E.r1, E.r2, E.r3, E.r4⟩ : _ ∧ _ ∧ _ ∧ _ ∧ _)
      have qi := E.i0
      have HE : Hid (okB (sh k) s t d m = _) := good_end (sh k) hn s t d m m0 HG.out
      have hbnd : wr.cell? ⟨0, 0, none⟩ = some (.iface 332 (.pointer (some pb))) := (HT.out.stays E.bel (Nat.le_refl _)).bound
      have hbel := E.bel
      by_cases a1 : zS (sh k) (lt (sh k)).length s = 0
      · by_cases a2 : zT (sh k) (lt (sh k)).length t = 0
        · by_cases a3 : zD (sh k) (lt (sh k)).length d = 0
          · by_cases a4 : zM (sh k) (lt (sh k)).length m = 0
            · have HO : Hid (okB (sh k) s t d m = true) := by show okB _ _ _ _ _ = _; rw [HE.out]; simp [a1, a2, a3, a4]
              clear HE
              go_wp2
              go_ret2
              exact ⟨by rw [encR_ok HO.out, ← eacc_end k s t d m hk HO.out m0]; rfl, hbel⟩
            · have HO : Hid (okB (sh k) s t d m = false) := by show okB _ _ _ _ _ = _; rw [HE.out]; simp [a4]
              clear HE
              go_wp2_with fail
              go_region
              all_goals
                go_wp2
                go_ret2
                exact ⟨by rw [encR_bad HO.out]; rfl, hbel.drew⟩
          · have HO : Hid (okB (sh k) s t d m = false) := by show okB _ _ _ _ _ = _; rw [HE.out]; simp [a3]
            clear HE
            go_wp2_with fail
            go_region
            all_goals
              go_wp2
              go_ret2
              exact ⟨by rw [encR_bad HO.out]; rfl, hbel.drew⟩
        · have HO : Hid (okB (sh k) s t d m = false) := by show okB _ _ _ _ _ = _; rw [HE.out]; simp [a2]
          clear HE
          go_wp2_with fail
          go_region
          all_goals
            go_wp2
            go_ret2
            exact ⟨by rw [encR_bad HO.out]; rfl, hbel.drew⟩
      · have HO : Hid (okB (sh k) s t d m = false) := by show okB _ _ _ _ _ = _; rw [HE.out]; simp [a1]
        clear HE
        go_wp2_with fail
        go_region
        all_goals
          go_wp2
          go_ret2
          exact ⟨by rw [encR_bad HO.out]; rfl, hbel.drew⟩
end Go.Proofs.YtflagpkmebdckaaGreatDoor.K
/-
  What package code's Decode answers: the instruction whose word it is, or none.
-/
namespace Go.Proofs.YtflagpkmebdckaaGreatDoor.K
open Go.RowKit Go.Extern.Stop Go.Stop Go.Extern
open Num Tab
set_option linter.unusedVariables false
/-- the fields so far -/
def yS (n p : Nat) (v : Int) : Int := if inL n p 83 then v / 2097152 % 32 else 0
def yT (n p : Nat) (v : Int) : Int := if inL n p 84 then v / 65536 % 32 else 0
def yD (n p : Nat) (v : Int) : Int := if inL n p 68 then v / 2048 % 32 else 0
def yM (n p : Nat) (v : Int) : Int := if inL n p 106 then v % 67108864 else if inL n p 105 then v % 65536 else if inL n p 97 then v / 64 % 32 else 0
theorem y_0 (n : Nat) (v : Int) : yS n 0 v = 0 ∧ yT n 0 v = 0 ∧ yD n 0 v = 0 ∧ yM n 0 v = 0 := by simp [yS, yT, yD, yM, inL]
theorem y_end (n : Nat) (v : Int) : yS n (lt n).length v = xs n v ∧ yT n (lt n).length v = xt n v ∧ yD n (lt n).length v = xd n v ∧ yM n (lt n).length v = xm n v := by
  simp [yS, yT, yD, yM, xs, xt, xd, xm, inL, hasS, hasT, hasD, hasA, hasI, hasJ]
theorem and31 (x : Int) (h0 : 0 ≤ x) (h1 : x < 4294967296) : bits .and .u32 x 31 = x % 32 := by
  rw [u32_and x _ h0 h1 (by decide) (by decide)]
  show ((x.toNat &&& 31 : Nat) : Int) = _
  have := Nat.and_two_pow_sub_one_eq_mod x.toNat 5
  rw [show (31 : Nat) = 2 ^ 5 - 1 by decide, this]; omega
theorem and65535 (x : Int) (h0 : 0 ≤ x) (h1 : x < 4294967296) : bits .and .u32 x 65535 = x % 65536 := by
  rw [u32_and x _ h0 h1 (by decide) (by decide)]
  show ((x.toNat &&& 65535 : Nat) : Int) = _
  have := Nat.and_two_pow_sub_one_eq_mod x.toNat 16
  rw [show (65535 : Nat) = 2 ^ 16 - 1 by decide, this]; omega
theorem and67108863 (x : Int) (h0 : 0 ≤ x) (h1 : x < 4294967296) : bits .and .u32 x 67108863 = x % 67108864 := by
  rw [u32_and x _ h0 h1 (by decide) (by decide)]
  show ((x.toNat &&& 67108863 : Nat) : Int) = _
  have := Nat.and_two_pow_sub_one_eq_mod x.toNat 26
  rw [show (67108863 : Nat) = 2 ^ 26 - 1 by decide, this]; omega
theorem ystep83 (n : Nat) (hn : n < 12) (p : Nat) (hp : p < (lt n).length) (hc : (lt n)[p] = 83) (v : Int) : yS n (p + 1) v = v / 2097152 % 32 ∧ yT n (p + 1) v = yT n p v ∧ yD n (p + 1) v = yD n p v ∧ yM n (p + 1) v = yM n p v := by
  have hcs : n = 0 ∨ n = 1 ∨ n = 2 ∨ n = 3 ∨ n = 4 ∨ n = 5 ∨ n = 6 ∨ n = 7 ∨ n = 8 ∨ n = 9 ∨ n = 10 ∨ n = 11 := by omega
  clear hn
  have hpp : p = 0 ∨ p = 1 ∨ p = 2 ∨ 3 ≤ p := by omega
  rcases hcs with rfl | rfl | rfl | rfl | rfl | rfl | rfl | rfl | rfl | rfl | rfl | rfl <;>
    rcases hpp with rfl | rfl | rfl | hpp <;>
    simp [lt, ltL] at hp hc <;>
    (first | (exfalso; omega) | simp [lt, ltL, inL, yS, yT, yD, yM])
theorem ystep84 (n : Nat) (hn : n < 12) (p : Nat) (hp : p < (lt n).length) (hc : (lt n)[p] = 84) (v : Int) : yS n (p + 1) v = yS n p v ∧ yT n (p + 1) v = v / 65536 % 32 ∧ yD n (p + 1) v = yD n p v ∧ yM n (p + 1) v = yM n p v := by
  have hcs : n = 0 ∨ n = 1 ∨ n = 2 ∨ n = 3 ∨ n = 4 ∨ n = 5 ∨ n = 6 ∨ n = 7 ∨ n = 8 ∨ n = 9 ∨ n = 10 ∨ n = 11 := by omega
  clear hn
  have hpp : p = 0 ∨ p = 1 ∨ p = 2 ∨ 3 ≤ p := by omega
  rcases hcs with rfl | rfl | rfl | rfl | rfl | rfl | rfl | rfl | rfl | rfl | rfl | rfl <;>
    rcases hpp with rfl | rfl | rfl | hpp <;>
    simp [lt, ltL] at hp hc <;>
    (first | (exfalso; omega) | simp [lt, ltL, inL, yS, yT, yD, yM])
theorem ystep68 (n : Nat) (hn : n < 12) (p : Nat) (hp : p < (lt n).length) (hc : (lt n)[p] = 68) (v : Int) : yS n (p + 1) v = yS n p v ∧ yT n (p + 1) v = yT n p v ∧ yD n (p + 1) v = v / 2048 % 32 ∧ yM n (p + 1) v = yM n p v := by
  have hcs : n = 0 ∨ n = 1 ∨ n = 2 ∨ n = 3 ∨ n = 4 ∨ n = 5 ∨ n = 6 ∨ n = 7 ∨ n = 8 ∨ n = 9 ∨ n = 10 ∨ n = 11 := by omega
  clear hn
  have hpp : p = 0 ∨ p = 1 ∨ p = 2 ∨ 3 ≤ p := by omega
  rcases hcs with rfl | rfl | rfl | rfl | rfl | rfl | rfl | rfl | rfl | rfl | rfl | rfl <;>
    rcases hpp with rfl | rfl | rfl | hpp <;>
    simp [lt, ltL] at hp hc <;>
    (first | (exfalso; omega) | simp [lt, ltL, inL, yS, yT, yD, yM])
theorem ystep97 (n : Nat) (hn : n < 12) (p : Nat) (hp : p < (lt n).length) (hc : (lt n)[p] = 97) (v : Int) : yS n (p + 1) v = yS n p v ∧ yT n (p + 1) v = yT n p v ∧ yD n (p + 1) v = yD n p v ∧ yM n (p + 1) v = v / 64 % 32 := by
  have hcs : n = 0 ∨ n = 1 ∨ n = 2 ∨ n = 3 ∨ n = 4 ∨ n = 5 ∨ n = 6 ∨ n = 7 ∨ n = 8 ∨ n = 9 ∨ n = 10 ∨ n = 11 := by omega
  clear hn
  have hpp : p = 0 ∨ p = 1 ∨ p = 2 ∨ 3 ≤ p := by omega
  rcases hcs with rfl | rfl | rfl | rfl | rfl | rfl | rfl | rfl | rfl | rfl | rfl | rfl <;>
    rcases hpp with rfl | rfl | rfl | hpp <;>
    simp [lt, ltL] at hp hc <;>
    (first | (exfalso; omega) | simp [lt, ltL, inL, yS, yT, yD, yM])
theorem ystep105 (n : Nat) (hn : n < 12) (p : Nat) (hp : p < (lt n).length) (hc : (lt n)[p] = 105) (v : Int) : yS n (p + 1) v = yS n p v ∧ yT n (p + 1) v = yT n p v ∧ yD n (p + 1) v = yD n p v ∧ yM n (p + 1) v = v % 65536 := by
  have hcs : n = 0 ∨ n = 1 ∨ n = 2 ∨ n = 3 ∨ n = 4 ∨ n = 5 ∨ n = 6 ∨ n = 7 ∨ n = 8 ∨ n = 9 ∨ n = 10 ∨ n = 11 := by omega
  clear hn
  have hpp : p = 0 ∨ p = 1 ∨ p = 2 ∨ 3 ≤ p := by omega
  rcases hcs with rfl | rfl | rfl | rfl | rfl | rfl | rfl | rfl | rfl | rfl | rfl | rfl <;>
    rcases hpp with rfl | rfl | rfl | hpp <;>
    simp [lt, ltL] at hp hc <;>
    (first | (exfalso; omega) | simp [lt, ltL, inL, yS, yT, yD, yM])
theorem ystep106 (n : Nat) (hn : n < 12) (p : Nat) (hp : p < (lt n).length) (hc : (lt n)[p] = 106) (v : Int) : yS n (p + 1) v = yS n p v ∧ yT n (p + 1) v = yT n p v ∧ yD n (p + 1) v = yD n p v ∧ yM n (p + 1) v = v % 67108864 := by
  have hcs : n = 0 ∨ n = 1 ∨ n = 2 ∨ n = 3 ∨ n = 4 ∨ n = 5 ∨ n = 6 ∨ n = 7 ∨ n = 8 ∨ n = 9 ∨ n = 10 ∨ n = 11 := by omega
  clear hn
  have hpp : p = 0 ∨ p = 1 ∨ p = 2 ∨ 3 ≤ p := by omega
  rcases hcs with rfl | rfl | rfl | rfl | rfl | rfl | rfl | rfl | rfl | rfl | rfl | rfl <;>
    rcases hpp with rfl | rfl | rfl | hpp <;>
    simp [lt, ltL] at hp hc <;>
    (first | (exfalso; omega) | simp [lt, ltL, inL, yS, yT, yD, yM])
/-- the loop's world -/
structure DInv (C : Nat) (w wr : World) (l : List UInt8) (p : Nat) (o s t d m : Int) : Prop where
  it : wr.heap[C + 1]? = some (.stringIter ⟨l.toArray⟩ p)
  c0 : wr.cell? ⟨C, 0, none⟩ = some (.int .i64 o)
  c1 : wr.cell? ⟨C, 1, none⟩ = some (.int .i64 s)
  c2 : wr.cell? ⟨C, 2, none⟩ = some (.int .i64 t)
  c3 : wr.cell? ⟨C, 3, none⟩ = some (.int .i64 d)
  c4 : wr.cell? ⟨C, 4, none⟩ = some (.int .u32 m)
  fz : ∀ j, wr.frozen? ⟨C, j, none⟩ = false
  bel : Below C w wr
section
variable {C : Nat} {w wr : World} {l : List UInt8} {p : Nat} {o s t d m : Int}
theorem DInv.next (E : DInv C w wr l p o s t d m) (q : Nat) : DInv C w (wr.iterAt (C + 1) ⟨l.toArray⟩ q) l q o s t d m := by
  have c : ∀ {b j : Nat} {v : Value}, b ≠ C + 1 → wr.cell? ⟨b, j, none⟩ = some v → (wr.iterAt (C + 1) ⟨l.toArray⟩ q).cell? ⟨b, j, none⟩ = some v := fun hb h => by
    rw [World.cell?_of_block (w := wr) (Lib.iterAt_other wr (C + 1) _ _ _ hb)]; exact h
  exact ⟨Lib.iterAt_heap wr _ _ p _ E.it, c (by omega) E.c0, c (by omega) E.c1, c (by omega) E.c2, c (by omega) E.c3, c (by omega) E.c4,
    fun j => by rw [World.frozen?_of_block (w := wr) (Lib.iterAt_other wr (C + 1) _ _ _ (by show C ≠ _; omega))]; exact E.fz j, Lib.below_iterAt E.bel (by omega) _ _⟩
theorem DInv.drewN (E : DInv C w wr l p o s t d m) (n : Nat) : DInv C w (wr.drewN n) l p o s t d m :=
  ⟨E.it, by simpa using E.c0, by simpa using E.c1, by simpa using E.c2, by simpa using E.c3, by simpa using E.c4, fun j => by simpa using E.fz j, below_drewN E.bel n⟩
theorem DInv.drew (E : DInv C w wr l p o s t d m) : DInv C w wr.drew l p o s t d m :=
  ⟨E.it, by simpa using E.c0, by simpa using E.c1, by simpa using E.c2, by simpa using E.c3, by simpa using E.c4, fun j => by simpa using E.fz j, E.bel.drew⟩
theorem DInv.putS (E : DInv C w wr l p o s t d m) (v : Int) : DInv C w (wr.setCell ⟨C, 1, none⟩ (.int .i64 v)) l p o v t d m := by
  have c : ∀ {q : Nat} {u : Value}, q ≠ 1 → wr.cell? ⟨C, q, none⟩ = some u → (wr.setCell ⟨C, 1, none⟩ (.int .i64 v)).cell? ⟨C, q, none⟩ = some u := fun hq h => by
    rw [World.cell?_setCell_other _ _ _ _ (by intro e; injection e with e1 e2; exact hq e2.symm)]; exact h
  exact ⟨by rw [Below.heap_setCell wr _ _ _ (by show C + 1 ≠ C; omega)]; exact E.it, c (by decide) E.c0, World.cell?_setCell_same _ _ _ E.c1, c (by decide) E.c2, c (by decide) E.c3, c (by decide) E.c4,
    fun q => by simpa using E.fz q, E.bel.setCell (Nat.le_refl _) _⟩
theorem DInv.putT (E : DInv C w wr l p o s t d m) (v : Int) : DInv C w (wr.setCell ⟨C, 2, none⟩ (.int .i64 v)) l p o s v d m := by
  have c : ∀ {q : Nat} {u : Value}, q ≠ 2 → wr.cell? ⟨C, q, none⟩ = some u → (wr.setCell ⟨C, 2, none⟩ (.int .i64 v)).cell? ⟨C, q, none⟩ = some u := fun hq h => by
    rw [World.cell?_setCell_other _ _ _ _ (by intro e; injection e with e1 e2; exact hq e2.symm)]; exact h
  exact ⟨by rw [Below.heap_setCell wr _ _ _ (by show C + 1 ≠ C; omega)]; exact E.it, c (by decide) E.c0, c (by decide) E.c1, World.cell?_setCell_same _ _ _ E.c2, c (by decide) E.c3, c (by decide) E.c4,
    fun q => by simpa using E.fz q, E.bel.setCell (Nat.le_refl _) _⟩
theorem DInv.putD (E : DInv C w wr l p o s t d m) (v : Int) : DInv C w (wr.setCell ⟨C, 3, none⟩ (.int .i64 v)) l p o s t v m := by
  have c : ∀ {q : Nat} {u : Value}, q ≠ 3 → wr.cell? ⟨C, q, none⟩ = some u → (wr.setCell ⟨C, 3, none⟩ (.int .i64 v)).cell? ⟨C, q, none⟩ = some u := fun hq h => by
    rw [World.cell?_setCell_other _ _ _ _ (by intro e; injection e with e1 e2; exact hq e2.symm)]; exact h
  exact ⟨by rw [Below.heap_setCell wr _ _ _ (by show C + 1 ≠ C; omega)]; exact E.it, c (by decide) E.c0, c (by decide) E.c1, c (by decide) E.c2, World.cell?_setCell_same _ _ _ E.c3, c (by decide) E.c4,
    fun q => by simpa using E.fz q, E.bel.setCell (Nat.le_refl _) _⟩
theorem DInv.putM (E : DInv C w wr l p o s t d m) (v : Int) : DInv C w (wr.setCell ⟨C, 4, none⟩ (.int .u32 v)) l p o s t d v := by
  have c : ∀ {q : Nat} {u : Value}, q ≠ 4 → wr.cell? ⟨C, q, none⟩ = some u → (wr.setCell ⟨C, 4, none⟩ (.int .u32 v)).cell? ⟨C, q, none⟩ = some u := fun hq h => by
    rw [World.cell?_setCell_other _ _ _ _ (by intro e; injection e with e1 e2; exact hq e2.symm)]; exact h
  exact ⟨by rw [Below.heap_setCell wr _ _ _ (by show C + 1 ≠ C; omega)]; exact E.it, c (by decide) E.c0, c (by decide) E.c1, c (by decide) E.c2, c (by decide) E.c3, World.cell?_setCell_same _ _ _ E.c4,
    fun q => by simpa using E.fz q, E.bel.setCell (Nat.le_refl _) _⟩
theorem DInv.start (w : World) (l : List UInt8) (o : Int) : DInv w.heap.size w ((w.alloc (.cells #[.int .i64 o, .int .i64 0, .int .i64 0, .int .i64 0, .int .u32 0] 113)).iter ⟨l.toArray⟩ 0) l 0 o 0 0 0 0 := by
  have c : ∀ (W : World) (b j : Nat), b < W.heap.size → (W.iter ⟨l.toArray⟩ 0).cell? ⟨b, j, none⟩ = W.cell? ⟨b, j, none⟩ := fun W b j hb => by
    unfold World.iter; rw [World.cell?_alloc_lt _ _ _ hb]
  have f : ∀ (W : World) (b j : Nat), b < W.heap.size → (W.iter ⟨l.toArray⟩ 0).frozen? ⟨b, j, none⟩ = W.frozen? ⟨b, j, none⟩ := fun W b j hb =>
    World.frozen?_of_block (w := W) (Below.heap_alloc _ _ _ hb)
  refine ⟨?_, by rw [c _ _ _ (by simp)]; simp, by rw [c _ _ _ (by simp)]; simp, by rw [c _ _ _ (by simp)]; simp, by rw [c _ _ _ (by simp)]; simp, by rw [c _ _ _ (by simp)]; simp, fun j => by rw [f _ _ _ (by simp)]; simp, ?_⟩
  · have := World.iter_heap (w.alloc (.cells #[.int .i64 o, .int .i64 0, .int .i64 0, .int .i64 0, .int .u32 0] 113)) ⟨l.toArray⟩ 0
    simpa using this
  · exact (((Below.refl _ _).alloc (Nat.le_refl _) _)).alloc (by simp) _
end
/-- a zero instruction stands at a block -/
structure ZAt (B : Nat) (w : World) : Prop where
  z0 : w.cell? ⟨B, 0, none⟩ = some (.int .i64 0)
  z1 : w.cell? ⟨B, 1, none⟩ = some (.int .i64 0)
  z2 : w.cell? ⟨B, 2, none⟩ = some (.int .i64 0)
  z3 : w.cell? ⟨B, 3, none⟩ = some (.int .i64 0)
  z4 : w.cell? ⟨B, 4, none⟩ = some (.int .u32 0)
  fz : ∀ j, w.frozen? ⟨B, j, none⟩ = false
theorem ZAt.stays {B C : Nat} {w w' : World} (z : ZAt B w) (h : Below C w w') (hC : B < C) : ZAt B w' := by
  have c : ∀ j, w'.cell? ⟨B, j, none⟩ = w.cell? ⟨B, j, none⟩ := fun j => h.cell (p := ⟨B, j, none⟩) hC
  exact ⟨(c 0).trans z.z0, (c 1).trans z.z1, (c 2).trans z.z2, (c 3).trans z.z3, (c 4).trans z.z4, fun j => (h.frozen (p := ⟨B, j, none⟩) hC).trans (z.fz j)⟩
theorem ZAt.alloc (w : World) : ZAt w.heap.size (w.alloc (.cells #[.int .i64 0, .int .i64 0, .int .i64 0, .int .i64 0, .int .u32 0] 113)) :=
  ⟨by simp, by simp, by simp, by simp, by simp, fun j => by simp⟩
/-- an operation is a word's -/
def DecP (v : Int) (k : Nat) : Prop := (1 ≤ k ∧ k < 54 ∧ xw k v = v) ∨ (k = 0 ∧ ∀ j, 1 ≤ j → j < 54 → xw j v ≠ v)
/-- the instruction, of the operation's fields -/
def decR (v : Int) (k : Nat) : Value := ins k (xs (sh k) v) (xt (sh k) v) (xd (sh k) v) (xm (sh k) v)
theorem x_rng (n : Nat) (v : Int) (h0 : 0 ≤ v) (h1 : v < 4294967296) : (0 ≤ xs n v ∧ xs n v < 32) ∧ (0 ≤ xt n v ∧ xt n v < 32) ∧ (0 ≤ xd n v ∧ xd n v < 32) ∧ (0 ≤ xm n v ∧ xm n v < 67108864) := by
  unfold xs xt xd xm
  refine ⟨?_, ?_, ?_, ?_⟩ <;> (repeat' split) <;> omega
end Go.Proofs.YtflagpkmebdckaaGreatDoor.K
/-
  The walks of coding() and of CodeKinds.
-/
namespace Go.Proofs.YtflagpkmebdckaaGreatDoor.K
open Go.RowKit Go.Extern.Stop Go.Stop Go.Extern
open Num Tab
set_option linter.unusedVariables false
theorem kind_lit : ∀ k, k < 54 → kind k = [98, 114, 97, 110, 99, 104] ∨ kind k = [108, 111, 97, 100] ∨ kind k = [115, 116, 111, 114, 101] ∨ kind k = [116, 114, 97, 112] ∨ kind k = [115, 117, 109] := by decide
theorem kind_nat (k : Nat) (hk : k < 54) (l : List UInt8) (hl : kind k = l) (w : World) : Calls Tryz.prog 91 #[.int .i64 k] w fun e w' => e = .returned (.string ⟨l.toArray⟩) ∧ w' = w := by
  have h : kindI k = l := by unfold kindI; rw [if_pos (by omega)]; exact hl
  rw [← h]; exact kind_any k w
theorem dec_lt {v : Int} {k : Nat} (h : DecP v k) : k < 54 := by rcases h with h | h <;> omega
/-- an instruction is a word's -/
def IsIns (v : Int) (k : Nat) (s t d m : Int) : Prop := DecP v k ∧ s = xs (sh k) v ∧ t = xt (sh k) v ∧ d = xd (sh k) v ∧ m = xm (sh k) v
end Go.Proofs.YtflagpkmebdckaaGreatDoor.K
/-
  Package opt: Known; ops that are told.
-/
namespace Go.Proofs.YtflagpkmebdckaaGreatDoor
open Go.RowKit Go.Maps
open Num
set_option linter.unusedVariables false
end Go.Proofs.YtflagpkmebdckaaGreatDoor
/-
  Package opt: ops that are told, in place.
-/
namespace Go.Proofs.YtflagpkmebdckaaGreatDoor
open Go.RowKit Go.Maps
open Num
set_option linter.unusedVariables false
end Go.Proofs.YtflagpkmebdckaaGreatDoor
/-
  slices.Reverse and slices.Clone of ops.
-/
namespace Go.Proofs.YtflagpkmebdckaaGreatDoor
open Go.RowKit Go.Maps
open Num
set_option linter.unusedVariables false
end Go.Proofs.YtflagpkmebdckaaGreatDoor
