/-
  The two memories side by side: what a load, a store, a watch and the hits make of both.
-/
import Derived.Test.YtmfhimphlackiaaDoorRaTold
import Derived.Test.YtmfhimphlackiaaDoorWords
import Derived.Test.YtmfhimphlackiaaDoorSerial
import Derived.Test.YtmfhimphlackiaaDoorPhase
namespace Go.Proofs.YtmfhimphlackiaaDoor
open Go.RowKit Go.Maps
open Num
set_option linter.unusedVariables false
def updM (m : Nat → Int) (a s v : Int) : Nat → Int := if chk a s = 0 then upd m a s v else m
def htM (wt ht : Int → Bool) (a s : Int) : Int → Bool := if chk a s = 0 then hitN wt ht a else ht
def ldM (m : Nat → Int) (a s : Int) (sg : Bool) : Int := if chk a s = 0 then ld m a s sg else 0
section
variable {w : World} {sb bp bw bh N : Nat} {m : Nat → Int} {wt ht : Int → Bool} {S : Nat → Addr}
theorem rload_all (E : Errs S w) (R : RamIs w sb bp bw bh N m wt ht) (a s : Int) (sg : Bool) (h0 : 0 ≤ a) (h1 : a < 4294967296) (s0 : -9223372036854775808 ≤ s) (s1 : s ≤ 9223372036854775807) :
    Calls Tryd.prog 14 #[.pointer (some ⟨sb, 0, none⟩), .int .u32 a, .int .i64 s, .bool sg] w fun e w' => e = .returned (.tuple #[.int .u32 (ldM m a s sg), erM S a s]) ∧ Below w.heap.size w w' := by
  unfold ldM erM
  by_cases h : chk a s = 0
  · rw [if_pos h, if_pos h]
    exact (load_ok R a s sg h0 h1 h).mono fun e w' ⟨g1, n, g2⟩ => ⟨g1, by rw [g2]; exact below_drewN (Below.refl _ _) n⟩
  · rw [if_neg h, if_neg h]
    exact (load_no (S 2) (S 8) (S 9) (er_of E) _ a s sg h0 h1 s0 s1 h).mono fun e w' ⟨g1, g2⟩ => ⟨g1, by rw [g2]; exact Below.refl _ _⟩
theorem rstore_all (E : Errs S w) (R : RamIs w sb bp bw bh N m wt ht) (a s v : Int) (h0 : 0 ≤ a) (h1 : a < 4294967296) (s0 : -9223372036854775808 ≤ s) (s1 : s ≤ 9223372036854775807) (v0 : 0 ≤ v) (v1 : v < 4294967296) (hN : N + 1 < maxLen) :
    Calls Tryd.prog 12 #[.pointer (some ⟨sb, 0, none⟩), .int .u32 a, .int .i64 s, .int .u32 v] w fun e w' => e = .returned (erM S a s) ∧ RamIs w' sb bp bw bh (N + 2) (updM m a s v) wt (htM wt ht a s) ∧ Kept w w' (fun k => k = bp ∨ k = bh) := by
  unfold erM updM htM
  by_cases h : chk a s = 0
  · rw [if_pos h, if_pos h, if_pos h]
    refine (store_ok R a s v h0 h1 v0 v1 hN h).mono ?_
    rintro e w' ⟨g1, g2, g3⟩
    refine ⟨g1, g2.hits fun x => ?_, ⟨g3.os, g3.tape, g3.output, g3.size, fun k hk hx => g3.block k hk (fun e => hx (.inl e)) (fun e => hx (.inr e))⟩⟩
    unfold hitN
    by_cases e1 : x = a / 256
    · rw [e1]; by_cases e2 : wt (a / 256) = true <;> simp [e2]
    · simp [e1]
  · rw [if_neg h, if_neg h, if_neg h]
    refine (store_no (S 2) (S 8) (S 9) (er_of E) _ a s v h0 h1 s0 s1 h).mono ?_
    rintro e w' ⟨g1, g2⟩
    subst g2
    exact ⟨g1, R.mono (by omega), Kept.refl _ _⟩
end
section
variable {w : World} {rb gb kb hb : Nat} {m : Nat → Int} {wt ht : Int → Bool}
theorem mload_all (D : DMem w rb gb kb hb m wt ht) (a s : Int) (sg : Bool) (h0 : 0 ≤ a) (h1 : a < 4294967296) (s0 : -9223372036854775808 ≤ s) (s1 : s ≤ 9223372036854775807) :
    Calls Tryd.prog 17 #[.pointer (some ⟨rb, 0, none⟩), .int .u32 a, .int .i64 s, .bool sg] w fun e w' => e = .returned (.tuple #[.int .u32 (ldM m a s sg), .int .i64 (rcM a s)]) ∧ w' = w := by
  unfold ldM rcM
  by_cases h : chk a s = 0
  · rw [if_pos h, if_pos h]; exact dload_ok D.d a s sg h0 h1 h
  · rw [if_neg h, if_neg h]; exact dload_no w _ a s sg h0 h1 s0 s1 h
theorem mstore_all (D : DMem w rb gb kb hb m wt ht) (a s v : Int) (h0 : 0 ≤ a) (h1 : a < 4294967296) (s0 : -9223372036854775808 ≤ s) (s1 : s ≤ 9223372036854775807) (v0 : 0 ≤ v) (v1 : v < 4294967296) :
    Calls Tryd.prog 19 #[.pointer (some ⟨rb, 0, none⟩), .int .u32 a, .int .i64 s, .int .u32 v] w fun e w' => e = .returned (.int .i64 (rcM a s)) ∧ DMem w' rb gb kb hb (updM m a s v) wt (htM wt ht a s) ∧ Kept w w' (fun k => k = gb ∨ k = hb) := by
  unfold rcM updM htM
  by_cases h : chk a s = 0
  · rw [if_pos h, if_pos h, if_pos h]; exact dstoreH_ok D a s v h0 h1 v0 v1 h
  · rw [if_neg h, if_neg h, if_neg h]
    refine (dstore_no w _ a s v h0 h1 s0 s1 h).mono ?_
    rintro e w' ⟨g1, g2⟩
    subst g2
    exact ⟨g1, D, Kept.refl _ _⟩
end
theorem PagesAt.blk {w w' : World} {b N : Nat} {m : Nat → Int} (h : PagesAt w b N m) (e : w'.heap[b]? = w.heap[b]?) : PagesAt w' b N m := by
  obtain ⟨D, ⟨es, clock, hb, Ft, hs, hD⟩, h2⟩ := h
  exact ⟨D, ⟨es, clock, e.trans hb, Ft, hs, hD⟩, h2⟩
theorem SetAt.blk {w w' : World} {b N : Nat} {s : Int → Bool} (h : SetAt w b N s) (e : w'.heap[b]? = w.heap[b]?) : SetAt w' b N s := by
  obtain ⟨D, ⟨es, clock, hb, Ft, hs, hD⟩, h2⟩ := h
  exact ⟨D, ⟨es, clock, e.trans hb, Ft, hs, hD⟩, h2⟩
theorem RamIs.keep {w w' : World} {sb bp bw bh N : Nat} {m : Nat → Int} {wt ht : Int → Bool} {X : Nat → Prop} (R : RamIs w sb bp bw bh N m wt ht) (K : Kept w w' X) (h : ∀ k, k = sb ∨ k = bp ∨ k = bw ∨ k = bh → ¬ X k) : RamIs w' sb bp bw bh N m wt ht :=
  ⟨K.cell R.c0 (h _ (by simp)), K.cell R.c1 (h _ (by simp)), K.cell R.c2 (h _ (by simp)), R.pw, R.ph, R.wh, R.sp, R.sh, R.ps.blk (K.block _ R.ps.lt (h _ (by simp))), R.ws.blk (K.block _ R.ws.lt (h _ (by simp))), R.hs.blk (K.block _ R.hs.lt (h _ (by simp))), R.mb⟩
theorem RamIs.lts {w : World} {sb bp bw bh N : Nat} {m : Nat → Int} {wt ht : Int → Bool} (R : RamIs w sb bp bw bh N m wt ht) : sb < w.heap.size ∧ bp < w.heap.size ∧ bw < w.heap.size ∧ bh < w.heap.size :=
  ⟨World.block_lt_of_cell? _ _ R.c0, R.ps.lt, R.ws.lt, R.hs.lt⟩
theorem DMem.keep {w w' : World} {rb gb kb hb : Nat} {m : Nat → Int} {wt ht : Int → Bool} {X : Nat → Prop} (D : DMem w rb gb kb hb m wt ht) (K : Kept w w' X) (h : ∀ k, k = rb ∨ k = gb ∨ k = kb ∨ k = hb → ¬ X k) : DMem w' rb gb kb hb m wt ht :=
  D.blk fun k hk => K.block k (D.lts hk) (h k hk)
/-- where the two memories lie: behind z0, the document's behind z1 -/
structure RApt (z0 z1 sb bp bw bh rb gb kb hb : Nat) : Prop where
  s0 : z0 ≤ sb
  p0 : z0 ≤ bp
  w0 : z0 ≤ bw
  h0 : z0 ≤ bh
  s1 : sb < z1
  p1 : bp < z1
  w1 : bw < z1
  h1 : bh < z1
  r2 : z1 ≤ rb
  g2 : z1 ≤ gb
  k2 : z1 ≤ kb
  h2 : z1 ≤ hb
  sw : sb ≠ bw
structure RInv (w wr : World) (sb bp bw bh rb gb kb hb : Nat) (j N : Nat) (m : Nat → Int) (wt ht : Int → Bool) : Prop where
  n1 : N ≤ 64 + 2 * j
  R : RamIs wr sb bp bw bh N m wt ht
  D : DMem wr rb gb kb hb m wt ht
  wo : ∀ x, wt x = true → 0 ≤ x ∧ x < 64
  ho : ∀ x, ht x = true → 0 ≤ x ∧ x < 64
  be : Below w.heap.size w wr
theorem RInv.stays {w wr w' : World} {sb bp bw bh rb gb kb hb j N : Nat} {m : Nat → Int} {wt ht : Int → Bool} (I : RInv w wr sb bp bw bh rb gb kb hb j N m wt ht) (h : Below wr.heap.size wr w') : RInv w w' sb bp bw bh rb gb kb hb j N m wt ht :=
  ⟨I.n1, I.R.stays h (Nat.le_refl _), I.D.stays h, I.wo, I.ho, I.be.trans (h.mono I.be.size)⟩
theorem RInv.go {w wr w2 : World} {sb bp bw bh rb gb kb hb j N N' : Nat} {m m' : Nat → Int} {wt ht wt' ht' : Int → Bool} (I : RInv w wr sb bp bw bh rb gb kb hb j N m wt ht) (K : Kept wr w2 (fun k => w.heap.size ≤ k)) (hN : N' ≤ N + 2) (R2 : RamIs w2 sb bp bw bh N' m' wt' ht') (D2 : DMem w2 rb gb kb hb m' wt' ht') (wo : ∀ x, wt' x = true → 0 ≤ x ∧ x < 64) (ho : ∀ x, ht' x = true → 0 ≤ x ∧ x < 64) :
    RInv w w2 sb bp bw bh rb gb kb hb (j + 1) N' m' wt' ht' :=
  ⟨by have := I.n1; omega, R2, D2, wo, ho, K.below I.be (Nat.le_refl _) (fun k hk h => by omega)⟩
theorem htM_out {wt ht : Int → Bool} {a s : Int} (hw : ∀ x, wt x = true → 0 ≤ x ∧ x < 64) (hh : ∀ x, ht x = true → 0 ≤ x ∧ x < 64) : ∀ x, htM wt ht a s x = true → 0 ≤ x ∧ x < 64 := by
  intro x h
  unfold htM at h
  split at h
  · unfold hitN at h
    rcases Bool.or_eq_true .. |>.mp h with h | h
    · exact hh x h
    · exact hw x (Bool.and_eq_true .. |>.mp h).1
  · exact hh x h
theorem wtS_out {wt : Int → Bool} {n : Int} {on : Bool} (h0 : 0 ≤ n) (h1 : n < 64) (hw : ∀ x, wt x = true → 0 ≤ x ∧ x < 64) : ∀ x, wtS wt n on x = true → 0 ≤ x ∧ x < 64 := by
  intro x h
  unfold wtS at h
  split at h
  · omega
  · exact hw x h
theorem ldM_bd {m : Nat → Int} (mb : ∀ i, 0 ≤ m i ∧ m i < 4294967296) (a s : Int) (sg : Bool) : 0 ≤ ldM m a s sg ∧ ldM m a s sg < 4294967296 := by
  unfold ldM
  split
  · unfold ld
    have := mb (a / 4).toNat
    have h2 : (0 : Int) < 2 ^ (bhd a s).toNat := Int.pow_pos (by omega)
    refine wd_bd (Int.ediv_nonneg this.1 (by omega)) ?_ sg
    have := Int.ediv_le_self (2 ^ (bhd a s).toNat) this.1
    omega
  · omega
end Go.Proofs.YtmfhimphlackiaaDoor
