/-
  What package code's Decode answers: the instruction whose word it is, or none.
-/
import Derived.Test.YtckcbnfobjmhpaaDoorKEncode
import Derived.Deep.RegionWith
namespace Go.Proofs.YtckcbnfobjmhpaaDoor.K
open Go.RowKit Go.Extern.Stop Go.Stop Go.Extern
open Num Tab
set_option linter.unusedVariables false
/-- the fields so far -/
def yS (n p : Nat) (v : Int) : Int := if inL n p 83 then v / 2097152 % 32 else 0
def yT (n p : Nat) (v : Int) : Int := if inL n p 84 then v / 65536 % 32 else 0
def yD (n p : Nat) (v : Int) : Int := if inL n p 68 then v / 2048 % 32 else 0
def yM (n p : Nat) (v : Int) : Int := if inL n p 106 then v % 67108864 else if inL n p 105 then v % 65536 else if inL n p 97 then v / 64 % 32 else 0
theorem y_0 (n : Nat) (v : Int) : yS n 0 v = 0 ∧ yT n 0 v = 0 ∧ yD n 0 v = 0 ∧ yM n 0 v = 0 := by simp [yS, yT, yD, yM, inL]
theorem y_end (n : Nat) (v : Int) : yS n (lt n).length v = xs n v ∧ yT n (lt n).length v = xt n v ∧ yD n (lt n).length v = xd n v ∧ yM n (lt n).length v = xm n v := by
  simp [yS, yT, yD, yM, xs, xt, xd, xm, inL, hasS, hasT, hasD, hasA, hasI, hasJ]
theorem and31 (x : Int) (h0 : 0 ≤ x) (h1 : x < 4294967296) : bits .and .u32 x 31 = x % 32 := by
  rw [u32_and x _ h0 h1 (by decide) (by decide)]
  show ((x.toNat &&& 31 : Nat) : Int) = _
  have := Nat.and_two_pow_sub_one_eq_mod x.toNat 5
  rw [show (31 : Nat) = 2 ^ 5 - 1 by decide, this]; omega
theorem and65535 (x : Int) (h0 : 0 ≤ x) (h1 : x < 4294967296) : bits .and .u32 x 65535 = x % 65536 := by
  rw [u32_and x _ h0 h1 (by decide) (by decide)]
  show ((x.toNat &&& 65535 : Nat) : Int) = _
  have := Nat.and_two_pow_sub_one_eq_mod x.toNat 16
  rw [show (65535 : Nat) = 2 ^ 16 - 1 by decide, this]; omega
theorem and67108863 (x : Int) (h0 : 0 ≤ x) (h1 : x < 4294967296) : bits .and .u32 x 67108863 = x % 67108864 := by
  rw [u32_and x _ h0 h1 (by decide) (by decide)]
  show ((x.toNat &&& 67108863 : Nat) : Int) = _
  have := Nat.and_two_pow_sub_one_eq_mod x.toNat 26
  rw [show (67108863 : Nat) = 2 ^ 26 - 1 by decide, this]; omega
theorem ystep83 (n : Nat) (hn : n < 12) (p : Nat) (hp : p < (lt n).length) (hc : (lt n)[p] = 83) (v : Int) : yS n (p + 1) v = v / 2097152 % 32 ∧ yT n (p + 1) v = yT n p v ∧ yD n (p + 1) v = yD n p v ∧ yM n (p + 1) v = yM n p v := by
  have hcs : n = 0 ∨ n = 1 ∨ n = 2 ∨ n = 3 ∨ n = 4 ∨ n = 5 ∨ n = 6 ∨ n = 7 ∨ n = 8 ∨ n = 9 ∨ n = 10 ∨ n = 11 := by omega
  clear hn
  have hpp : p = 0 ∨ p = 1 ∨ p = 2 ∨ 3 ≤ p := by omega
  rcases hcs with rfl | rfl | rfl | rfl | rfl | rfl | rfl | rfl | rfl | rfl | rfl | rfl <;>
    rcases hpp with rfl | rfl | rfl | hpp <;>
    simp [lt, ltL] at hp hc <;>
    (first | (exfalso; omega) | simp [lt, ltL, inL, yS, yT, yD, yM])
theorem ystep84 (n : Nat) (hn : n < 12) (p : Nat) (hp : p < (lt n).length) (hc : (lt n)[p] = 84) (v : Int) : yS n (p + 1) v = yS n p v ∧ yT n (p + 1) v = v / 65536 % 32 ∧ yD n (p + 1) v = yD n p v ∧ yM n (p + 1) v = yM n p v := by
  have hcs : n = 0 ∨ n = 1 ∨ n = 2 ∨ n = 3 ∨ n = 4 ∨ n = 5 ∨ n = 6 ∨ n = 7 ∨ n = 8 ∨ n = 9 ∨ n = 10 ∨ n = 11 := by omega
  clear hn
  have hpp : p = 0 ∨ p = 1 ∨ p = 2 ∨ 3 ≤ p := by omega
  rcases hcs with rfl | rfl | rfl | rfl | rfl | rfl | rfl | rfl | rfl | rfl | rfl | rfl <;>
    rcases hpp with rfl | rfl | rfl | hpp <;>
    simp [lt, ltL] at hp hc <;>
    (first | (exfalso; omega) | simp [lt, ltL, inL, yS, yT, yD, yM])
theorem ystep68 (n : Nat) (hn : n < 12) (p : Nat) (hp : p < (lt n).length) (hc : (lt n)[p] = 68) (v : Int) : yS n (p + 1) v = yS n p v ∧ yT n (p + 1) v = yT n p v ∧ yD n (p + 1) v = v / 2048 % 32 ∧ yM n (p + 1) v = yM n p v := by
  have hcs : n = 0 ∨ n = 1 ∨ n = 2 ∨ n = 3 ∨ n = 4 ∨ n = 5 ∨ n = 6 ∨ n = 7 ∨ n = 8 ∨ n = 9 ∨ n = 10 ∨ n = 11 := by omega
  clear hn
  have hpp : p = 0 ∨ p = 1 ∨ p = 2 ∨ 3 ≤ p := by omega
  rcases hcs with rfl | rfl | rfl | rfl | rfl | rfl | rfl | rfl | rfl | rfl | rfl | rfl <;>
    rcases hpp with rfl | rfl | rfl | hpp <;>
    simp [lt, ltL] at hp hc <;>
    (first | (exfalso; omega) | simp [lt, ltL, inL, yS, yT, yD, yM])
theorem ystep97 (n : Nat) (hn : n < 12) (p : Nat) (hp : p < (lt n).length) (hc : (lt n)[p] = 97) (v : Int) : yS n (p + 1) v = yS n p v ∧ yT n (p + 1) v = yT n p v ∧ yD n (p + 1) v = yD n p v ∧ yM n (p + 1) v = v / 64 % 32 := by
  have hcs : n = 0 ∨ n = 1 ∨ n = 2 ∨ n = 3 ∨ n = 4 ∨ n = 5 ∨ n = 6 ∨ n = 7 ∨ n = 8 ∨ n = 9 ∨ n = 10 ∨ n = 11 := by omega
  clear hn
  have hpp : p = 0 ∨ p = 1 ∨ p = 2 ∨ 3 ≤ p := by omega
  rcases hcs with rfl | rfl | rfl | rfl | rfl | rfl | rfl | rfl | rfl | rfl | rfl | rfl <;>
    rcases hpp with rfl | rfl | rfl | hpp <;>
    simp [lt, ltL] at hp hc <;>
    (first | (exfalso; omega) | simp [lt, ltL, inL, yS, yT, yD, yM])
theorem ystep105 (n : Nat) (hn : n < 12) (p : Nat) (hp : p < (lt n).length) (hc : (lt n)[p] = 105) (v : Int) : yS n (p + 1) v = yS n p v ∧ yT n (p + 1) v = yT n p v ∧ yD n (p + 1) v = yD n p v ∧ yM n (p + 1) v = v % 65536 := by
  have hcs : n = 0 ∨ n = 1 ∨ n = 2 ∨ n = 3 ∨ n = 4 ∨ n = 5 ∨ n = 6 ∨ n = 7 ∨ n = 8 ∨ n = 9 ∨ n = 10 ∨ n = 11 := by omega
  clear hn
  have hpp : p = 0 ∨ p = 1 ∨ p = 2 ∨ 3 ≤ p := by omega
  rcases hcs with rfl | rfl | rfl | rfl | rfl | rfl | rfl | rfl | rfl | rfl | rfl | rfl <;>
    rcases hpp with rfl | rfl | rfl | hpp <;>
    simp [lt, ltL] at hp hc <;>
    (first | (exfalso; omega) | simp [lt, ltL, inL, yS, yT, yD, yM])
theorem ystep106 (n : Nat) (hn : n < 12) (p : Nat) (hp : p < (lt n).length) (hc : (lt n)[p] = 106) (v : Int) : yS n (p + 1) v = yS n p v ∧ yT n (p + 1) v = yT n p v ∧ yD n (p + 1) v = yD n p v ∧ yM n (p + 1) v = v % 67108864 := by
  have hcs : n = 0 ∨ n = 1 ∨ n = 2 ∨ n = 3 ∨ n = 4 ∨ n = 5 ∨ n = 6 ∨ n = 7 ∨ n = 8 ∨ n = 9 ∨ n = 10 ∨ n = 11 := by omega
  clear hn
  have hpp : p = 0 ∨ p = 1 ∨ p = 2 ∨ 3 ≤ p := by omega
  rcases hcs with rfl | rfl | rfl | rfl | rfl | rfl | rfl | rfl | rfl | rfl | rfl | rfl <;>
    rcases hpp with rfl | rfl | rfl | hpp <;>
    simp [lt, ltL] at hp hc <;>
    (first | (exfalso; omega) | simp [lt, ltL, inL, yS, yT, yD, yM])
/-- the loop's world -/
structure DInv (C : Nat) (w wr : World) (l : List UInt8) (p : Nat) (o s t d m : Int) : Prop where
  it : wr.heap[C + 1]? = some (.stringIter ⟨l.toArray⟩ p)
  c0 : wr.cell? ⟨C, 0, none⟩ = some (.int .i64 o)
  c1 : wr.cell? ⟨C, 1, none⟩ = some (.int .i64 s)
  c2 : wr.cell? ⟨C, 2, none⟩ = some (.int .i64 t)
  c3 : wr.cell? ⟨C, 3, none⟩ = some (.int .i64 d)
  c4 : wr.cell? ⟨C, 4, none⟩ = some (.int .u32 m)
  fz : ∀ j, wr.frozen? ⟨C, j, none⟩ = false
  bel : Below C w wr
section
variable {C : Nat} {w wr : World} {l : List UInt8} {p : Nat} {o s t d m : Int}
theorem DInv.next (E : DInv C w wr l p o s t d m) (q : Nat) : DInv C w (wr.iterAt (C + 1) ⟨l.toArray⟩ q) l q o s t d m := by
  have c : ∀ {b j : Nat} {v : Value}, b ≠ C + 1 → wr.cell? ⟨b, j, none⟩ = some v → (wr.iterAt (C + 1) ⟨l.toArray⟩ q).cell? ⟨b, j, none⟩ = some v := fun hb h => by
    rw [World.cell?_of_block (w := wr) (Lib.iterAt_other wr (C + 1) _ _ _ hb)]; exact h
  exact ⟨Lib.iterAt_heap wr _ _ p _ E.it, c (by omega) E.c0, c (by omega) E.c1, c (by omega) E.c2, c (by omega) E.c3, c (by omega) E.c4,
    fun j => by rw [World.frozen?_of_block (w := wr) (Lib.iterAt_other wr (C + 1) _ _ _ (by show C ≠ _; omega))]; exact E.fz j, Lib.below_iterAt E.bel (by omega) _ _⟩
theorem DInv.drewN (E : DInv C w wr l p o s t d m) (n : Nat) : DInv C w (wr.drewN n) l p o s t d m :=
  ⟨E.it, by simpa using E.c0, by simpa using E.c1, by simpa using E.c2, by simpa using E.c3, by simpa using E.c4, fun j => by simpa using E.fz j, below_drewN E.bel n⟩
theorem DInv.drew (E : DInv C w wr l p o s t d m) : DInv C w wr.drew l p o s t d m :=
  ⟨E.it, by simpa using E.c0, by simpa using E.c1, by simpa using E.c2, by simpa using E.c3, by simpa using E.c4, fun j => by simpa using E.fz j, E.bel.drew⟩
theorem DInv.putS (E : DInv C w wr l p o s t d m) (v : Int) : DInv C w (wr.setCell ⟨C, 1, none⟩ (.int .i64 v)) l p o v t d m := by
  have c : ∀ {q : Nat} {u : Value}, q ≠ 1 → wr.cell? ⟨C, q, none⟩ = some u → (wr.setCell ⟨C, 1, none⟩ (.int .i64 v)).cell? ⟨C, q, none⟩ = some u := fun hq h => by
    rw [World.cell?_setCell_other _ _ _ _ (by intro e; injection e with e1 e2; exact hq e2.symm)]; exact h
  exact ⟨by rw [Below.heap_setCell wr _ _ _ (by show C + 1 ≠ C; omega)]; exact E.it, c (by decide) E.c0, World.cell?_setCell_same _ _ _ E.c1, c (by decide) E.c2, c (by decide) E.c3, c (by decide) E.c4,
    fun q => by simpa using E.fz q, E.bel.setCell (Nat.le_refl _) _⟩
theorem DInv.putT (E : DInv C w wr l p o s t d m) (v : Int) : DInv C w (wr.setCell ⟨C, 2, none⟩ (.int .i64 v)) l p o s v d m := by
  have c : ∀ {q : Nat} {u : Value}, q ≠ 2 → wr.cell? ⟨C, q, none⟩ = some u → (wr.setCell ⟨C, 2, none⟩ (.int .i64 v)).cell? ⟨C, q, none⟩ = some u := fun hq h => by
    rw [World.cell?_setCell_other _ _ _ _ (by intro e; injection e with e1 e2; exact hq e2.symm)]; exact h
  exact ⟨by rw [Below.heap_setCell wr _ _ _ (by show C + 1 ≠ C; omega)]; exact E.it, c (by decide) E.c0, c (by decide) E.c1, World.cell?_setCell_same _ _ _ E.c2, c (by decide) E.c3, c (by decide) E.c4,
    fun q => by simpa using E.fz q, E.bel.setCell (Nat.le_refl _) _⟩
theorem DInv.putD (E : DInv C w wr l p o s t d m) (v : Int) : DInv C w (wr.setCell ⟨C, 3, none⟩ (.int .i64 v)) l p o s t v m := by
  have c : ∀ {q : Nat} {u : Value}, q ≠ 3 → wr.cell? ⟨C, q, none⟩ = some u → (wr.setCell ⟨C, 3, none⟩ (.int .i64 v)).cell? ⟨C, q, none⟩ = some u := fun hq h => by
    rw [World.cell?_setCell_other _ _ _ _ (by intro e; injection e with e1 e2; exact hq e2.symm)]; exact h
  exact ⟨by rw [Below.heap_setCell wr _ _ _ (by show C + 1 ≠ C; omega)]; exact E.it, c (by decide) E.c0, c (by decide) E.c1, c (by decide) E.c2, World.cell?_setCell_same _ _ _ E.c3, c (by decide) E.c4,
    fun q => by simpa using E.fz q, E.bel.setCell (Nat.le_refl _) _⟩
theorem DInv.putM (E : DInv C w wr l p o s t d m) (v : Int) : DInv C w (wr.setCell ⟨C, 4, none⟩ (.int .u32 v)) l p o s t d v := by
  have c : ∀ {q : Nat} {u : Value}, q ≠ 4 → wr.cell? ⟨C, q, none⟩ = some u → (wr.setCell ⟨C, 4, none⟩ (.int .u32 v)).cell? ⟨C, q, none⟩ = some u := fun hq h => by
    rw [World.cell?_setCell_other _ _ _ _ (by intro e; injection e with e1 e2; exact hq e2.symm)]; exact h
  exact ⟨by rw [Below.heap_setCell wr _ _ _ (by show C + 1 ≠ C; omega)]; exact E.it, c (by decide) E.c0, c (by decide) E.c1, c (by decide) E.c2, c (by decide) E.c3, World.cell?_setCell_same _ _ _ E.c4,
    fun q => by simpa using E.fz q, E.bel.setCell (Nat.le_refl _) _⟩
theorem DInv.start (w : World) (l : List UInt8) (o : Int) : DInv w.heap.size w ((w.alloc (.cells #[.int .i64 o, .int .i64 0, .int .i64 0, .int .i64 0, .int .u32 0] 65)).iter ⟨l.toArray⟩ 0) l 0 o 0 0 0 0 := by
  have c : ∀ (W : World) (b j : Nat), b < W.heap.size → (W.iter ⟨l.toArray⟩ 0).cell? ⟨b, j, none⟩ = W.cell? ⟨b, j, none⟩ := fun W b j hb => by
    unfold World.iter; rw [World.cell?_alloc_lt _ _ _ hb]
  have f : ∀ (W : World) (b j : Nat), b < W.heap.size → (W.iter ⟨l.toArray⟩ 0).frozen? ⟨b, j, none⟩ = W.frozen? ⟨b, j, none⟩ := fun W b j hb =>
    World.frozen?_of_block (w := W) (Below.heap_alloc _ _ _ hb)
  refine ⟨?_, by rw [c _ _ _ (by simp)]; simp, by rw [c _ _ _ (by simp)]; simp, by rw [c _ _ _ (by simp)]; simp, by rw [c _ _ _ (by simp)]; simp, by rw [c _ _ _ (by simp)]; simp, fun j => by rw [f _ _ _ (by simp)]; simp, ?_⟩
  · have := World.iter_heap (w.alloc (.cells #[.int .i64 o, .int .i64 0, .int .i64 0, .int .i64 0, .int .u32 0] 65)) ⟨l.toArray⟩ 0
    simpa using this
  · exact (((Below.refl _ _).alloc (Nat.le_refl _) _)).alloc (by simp) _
end
/-- a zero instruction stands at a block -/
structure ZAt (B : Nat) (w : World) : Prop where
  z0 : w.cell? ⟨B, 0, none⟩ = some (.int .i64 0)
  z1 : w.cell? ⟨B, 1, none⟩ = some (.int .i64 0)
  z2 : w.cell? ⟨B, 2, none⟩ = some (.int .i64 0)
  z3 : w.cell? ⟨B, 3, none⟩ = some (.int .i64 0)
  z4 : w.cell? ⟨B, 4, none⟩ = some (.int .u32 0)
  fz : ∀ j, w.frozen? ⟨B, j, none⟩ = false
theorem ZAt.stays {B C : Nat} {w w' : World} (z : ZAt B w) (h : Below C w w') (hC : B < C) : ZAt B w' := by
  have c : ∀ j, w'.cell? ⟨B, j, none⟩ = w.cell? ⟨B, j, none⟩ := fun j => h.cell (p := ⟨B, j, none⟩) hC
  exact ⟨(c 0).trans z.z0, (c 1).trans z.z1, (c 2).trans z.z2, (c 3).trans z.z3, (c 4).trans z.z4, fun j => (h.frozen (p := ⟨B, j, none⟩) hC).trans (z.fz j)⟩
theorem ZAt.alloc (w : World) : ZAt w.heap.size (w.alloc (.cells #[.int .i64 0, .int .i64 0, .int .i64 0, .int .i64 0, .int .u32 0] 65)) :=
  ⟨by simp, by simp, by simp, by simp, by simp, fun j => by simp⟩
/-- an operation is a word's -/
def DecP (v : Int) (k : Nat) : Prop := (1 ≤ k ∧ k < 54 ∧ xw k v = v) ∨ (k = 0 ∧ ∀ j, 1 ≤ j → j < 54 → xw j v ≠ v)
/-- the instruction, of the operation's fields -/
def decR (v : Int) (k : Nat) : Value := ins k (xs (sh k) v) (xt (sh k) v) (xd (sh k) v) (xm (sh k) v)
theorem x_rng (n : Nat) (v : Int) (h0 : 0 ≤ v) (h1 : v < 4294967296) : (0 ≤ xs n v ∧ xs n v < 32) ∧ (0 ≤ xt n v ∧ xt n v < 32) ∧ (0 ≤ xd n v ∧ xd n v < 32) ∧ (0 ≤ xm n v ∧ xm n v < 67108864) := by
  unfold xs xt xd xm
  refine ⟨?_, ?_, ?_, ?_⟩ <;> (repeat' split) <;> omega
end Go.Proofs.YtckcbnfobjmhpaaDoor.K
