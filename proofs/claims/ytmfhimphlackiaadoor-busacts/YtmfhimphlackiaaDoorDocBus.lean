/-
  The document's bus.
-/
import Derived.Test.YtmfhimphlackiaaDoorDocMem
import Derived.Test.YtmfhimphlackiaaDoorBusTold
import Derived.Test.YtmfhimphlackiaaDoorApartInv
namespace Go.Proofs.YtmfhimphlackiaaDoor
open Go.RowKit Go.Maps
open Num
set_option linter.unusedVariables false
structure DBus (w : World) (base db rb gb kb : Nat) (m : Nat → Int) (out : List Int) (lamp : Int) (tr : List Acc) (vt : Value) : Prop where
  c0 : w.cell? ⟨db, 0, none⟩ = some (.pointer (some ⟨rb, 0, none⟩))
  c1 : w.cell? ⟨db, 1, none⟩ = some (.string (outS out))
  c2 : w.cell? ⟨db, 2, none⟩ = some (.int .u32 lamp)
  c3 : w.cell? ⟨db, 3, none⟩ = some vt
  fz : ∀ j, w.frozen? ⟨db, j, none⟩ = false
  rt : w.ownsRow base 98 4 vt tr.length (tr.flatMap accC)
  D : DRam w rb gb kb m (fun _ => false)
  lb : db < base
  lr : rb < base
  lg : gb < base
  lk : kb < base
  nr : db ≠ rb
  ng : db ≠ gb
  nk : db ≠ kb
  bs : base ≤ w.heap.size
section
variable {w : World} {base db rb gb kb : Nat} {m : Nat → Int} {out : List Int} {lamp : Int} {tr : List Acc} {vt : Value}
theorem DBus.blocks {w' : World} (B : DBus w base db rb gb kb m out lamp tr vt) (hz : w.heap.size ≤ w'.heap.size) (h : ∀ k, k = db ∨ k = rb ∨ k = gb ∨ k = kb ∨ vt.ownBlock = some k → w'.heap[k]? = w.heap[k]?) : DBus w' base db rb gb kb m out lamp tr vt := by
  have hs := h db (Or.inl rfl)
  have c : ∀ (j : Nat) (v : Value), w.cell? ⟨db, j, none⟩ = some v → w'.cell? ⟨db, j, none⟩ = some v := fun j v e => (World.cell?_of_block (a := ⟨db, j, none⟩) hs).trans e
  exact ⟨c _ _ B.c0, c _ _ B.c1, c _ _ B.c2, c _ _ B.c3, fun j => (World.frozen?_of_block (a := ⟨db, j, none⟩) hs).trans (B.fz j), owns_blocks B.rt (fun k e => h k (by simp [e])), B.D.blocks (fun k e => h k (by rcases e with rfl | rfl | rfl <;> simp)), B.lb, B.lr, B.lg, B.lk, B.nr, B.ng, B.nk, Nat.le_trans B.bs hz⟩
theorem DBus.lt (B : DBus w base db rb gb kb m out lamp tr vt) {k : Nat} (h : k = db ∨ k = rb ∨ k = gb ∨ k = kb ∨ vt.ownBlock = some k) : k < w.heap.size := by
  have := B.bs; have := B.lb; have := B.lr; have := B.lg; have := B.lk
  rcases h with rfl | rfl | rfl | rfl | h
  · omega
  · omega
  · omega
  · omega
  · exact (B.rt.lt k h).2
theorem DBus.stays {w' : World} (B : DBus w base db rb gb kb m out lamp tr vt) (h : Below w.heap.size w w') : DBus w' base db rb gb kb m out lamp tr vt := B.blocks h.size fun k hk => h.block k (B.lt hk)
/-- w' is w but for these blocks, and new ones -/
structure DTurned (w w' : World) (db gb : Nat) (vt : Value) : Prop where
  os : w'.os = w.os
  tape : w'.tape = w.tape
  output : w'.output = w.output
  size : w.heap.size ≤ w'.heap.size
  block : ∀ k, k < w.heap.size → k ≠ db → k ≠ gb → vt.ownBlock ≠ some k → w'.heap[k]? = w.heap[k]?
theorem DTurned.refl (w : World) (db gb : Nat) (vt : Value) : DTurned w w db gb vt := ⟨rfl, rfl, rfl, Nat.le_refl _, fun _ _ _ _ _ => rfl⟩
theorem DTurned.of_grown {w' : World} (h : w.grownBy w' (some gb)) : DTurned w w' db gb vt := ⟨h.os, h.tape, h.output, h.size, fun k hk _ h2 _ => h.block k hk (by simp [h2])⟩
theorem DTurned.trans {w1 w2 : World} {vt' : Value} (t : DTurned w w1 db gb vt) (u : DTurned w1 w2 db gb vt') (ht : Moved w vt vt') : DTurned w w2 db gb vt := by
  refine ⟨u.os.trans t.os, u.tape.trans t.tape, u.output.trans t.output, Nat.le_trans t.size u.size, fun k hk h0 h1 h4 => ?_⟩
  rw [u.block k (Nat.lt_of_lt_of_le hk t.size) h0 h1 ?_, t.block k hk h0 h1 h4]
  intro e; rcases ht k e with e | e
  · exact h4 e
  · omega
theorem DTurned.below {w0 w' : World} {B : Nat} (t : DTurned w w' db gb vt) (h0 : Below B w0 w) (hB : B ≤ w0.heap.size) (h1 : B ≤ db) (h2 : B ≤ gb) (h5 : ∀ k, vt.ownBlock = some k → B ≤ k) : Below B w0 w' :=
  ⟨t.os.trans h0.os, t.tape.trans h0.tape, t.output.trans h0.output, Nat.le_trans h0.size t.size, fun k hk => (t.block k (by have := h0.size; omega) (by omega) (by omega) (fun e => by have := h5 k e; omega)).trans (h0.block k hk)⟩
theorem DBus.own {w' : World} {m' : Nat → Int} (B : DBus w base db rb gb kb m out lamp tr vt) (D : DRam w' rb gb kb m' (fun _ => false)) (t : w.grownBy w' (some gb)) : DBus w' base db rb gb kb m' out lamp tr vt := by
  have hs := t.block db (Nat.lt_of_lt_of_le B.lb B.bs) (by simp [B.ng])
  have c : ∀ (j : Nat) (v : Value), w.cell? ⟨db, j, none⟩ = some v → w'.cell? ⟨db, j, none⟩ = some v := fun j v e => (World.cell?_of_block (a := ⟨db, j, none⟩) hs).trans e
  exact ⟨c _ _ B.c0, c _ _ B.c1, c _ _ B.c2, c _ _ B.c3, fun j => (World.frozen?_of_block (a := ⟨db, j, none⟩) hs).trans (B.fz j), owns_blocks B.rt (fun k e => t.block k (B.rt.lt k e).2 (by have := (B.rt.lt k e).1; have := B.lg; simp; omega)), D, B.lb, B.lr, B.lg, B.lk, B.nr, B.ng, B.nk, Nat.le_trans B.bs t.size⟩
theorem DBus.putTr (B : DBus w base db rb gb kb m out lamp tr vt) {o : Obj} {w1 : World} {v' : Value} {x : Acc} (ho : w1.ownsRow base 98 4 v' (tr.length + 1) (tr.flatMap accC ++ accC x)) (hg : (w.alloc o).grownBy w1 vt.ownBlock) (hm : Moved (w.alloc o) vt v') :
    (w1.cell? ⟨db, 3, none⟩ = some vt ∧ w1.frozen? ⟨db, 3, none⟩ = false) ∧ DBus (w1.setCell ⟨db, 3, none⟩ v') base db rb gb kb m out lamp (tr ++ [x]) v' ∧ DTurned w (w1.setCell ⟨db, 3, none⟩ v') db gb vt ∧ Moved w vt v' := by
  have hz : w.heap.size < w1.heap.size := by have := hg.size; simp at this; omega
  have hmw : Moved w vt v' := fun k hk => (hm k hk).imp id (fun h => by simp at h; omega)
  have hk : ∀ k, k < w.heap.size → vt.ownBlock ≠ some k → w1.heap[k]? = w.heap[k]? := fun k hk h => (hg.block k (by simp; omega) (fun e => h e.symm)).trans (Below.heap_alloc w o k hk)
  have hlow : ∀ k, k < base → w1.heap[k]? = w.heap[k]? := fun k hb => hk k (by have := B.bs; omega) (fun e => by have := (B.rt.lt k e).1; omega)
  have hs := hlow db B.lb
  have c : ∀ (j : Nat) (v : Value), w.cell? ⟨db, j, none⟩ = some v → w1.cell? ⟨db, j, none⟩ = some v := fun j v e => (World.cell?_of_block (a := ⟨db, j, none⟩) hs).trans e
  have f : ∀ j, w1.frozen? ⟨db, j, none⟩ = false := fun j => (World.frozen?_of_block (a := ⟨db, j, none⟩) hs).trans (B.fz j)
  have oth : ∀ (j : Nat) (v : Value), j ≠ 3 → w.cell? ⟨db, j, none⟩ = some v → (w1.setCell ⟨db, 3, none⟩ v').cell? ⟨db, j, none⟩ = some v := fun j v hj e => by
    rw [World.cell?_setCell_other _ _ _ _ (by intro e; injection e with e1 e2; exact hj e2.symm)]; exact c j v e
  have blk : ∀ k, k ≠ db → (w1.setCell ⟨db, 3, none⟩ v').heap[k]? = w1.heap[k]? := fun k h => Below.heap_setCell w1 ⟨db, 3, none⟩ v' k h
  refine ⟨⟨c _ _ B.c3, f 3⟩, ⟨oth 0 _ (by omega) B.c0, oth 1 _ (by omega) B.c1, oth 2 _ (by omega) B.c2, World.cell?_setCell_same _ _ _ (c _ _ B.c3), fun j => by rw [World.frozen?_setCell]; exact f j, ?_, ?_, B.lb, B.lr, B.lg, B.lk, B.nr, B.ng, B.nk, ?_⟩, ?_, hmw⟩
  · rw [List.length_append, ← trC_add]
    refine owns_blocks ho fun k e => blk k ?_
    have := (ho.lt k e).1; have := B.lb; omega
  · refine B.D.blocks fun k e => ?_
    have h1 := B.nr; have h2 := B.ng; have h3 := B.nk; have l1 := B.lr; have l2 := B.lg; have l3 := B.lk
    rcases e with rfl | rfl | rfl
    · exact (blk _ (Ne.symm h1)).trans (hlow _ l1)
    · exact (blk _ (Ne.symm h2)).trans (hlow _ l2)
    · exact (blk _ (Ne.symm h3)).trans (hlow _ l3)
  · have := B.bs; simp; omega
  · exact ⟨hg.os, hg.tape, hg.output, by simp; omega, fun k hkk h0 h1 h4 => (blk k h0).trans (hk k hkk h4)⟩
theorem DBus.putLamp (B : DBus w base db rb gb kb m out lamp tr vt) (x : Int) : DBus (w.setCell ⟨db, 2, none⟩ (.int .u32 x)) base db rb gb kb m out x tr vt ∧ DTurned w (w.setCell ⟨db, 2, none⟩ (.int .u32 x)) db gb vt := by
  have oth : ∀ (j : Nat) (v : Value), j ≠ 2 → w.cell? ⟨db, j, none⟩ = some v → (w.setCell ⟨db, 2, none⟩ (.int .u32 x)).cell? ⟨db, j, none⟩ = some v := fun j v hj e => by
    rw [World.cell?_setCell_other _ _ _ _ (by intro e; injection e with e1 e2; exact hj e2.symm)]; exact e
  have blk : ∀ k, k ≠ db → (w.setCell ⟨db, 2, none⟩ (.int .u32 x)).heap[k]? = w.heap[k]? := fun k h => Below.heap_setCell w ⟨db, 2, none⟩ _ k h
  refine ⟨⟨oth 0 _ (by omega) B.c0, oth 1 _ (by omega) B.c1, World.cell?_setCell_same _ _ _ B.c2, oth 3 _ (by omega) B.c3, fun j => by rw [World.frozen?_setCell]; exact B.fz j, ?_, ?_, B.lb, B.lr, B.lg, B.lk, B.nr, B.ng, B.nk, ?_⟩, ?_⟩
  · exact owns_blocks B.rt fun k e => blk k (by have := (B.rt.lt k e).1; have := B.lb; omega)
  · refine B.D.blocks fun k e => ?_
    have h1 := B.nr; have h2 := B.ng; have h3 := B.nk
    rcases e with rfl | rfl | rfl
    · exact blk _ (Ne.symm h1)
    · exact blk _ (Ne.symm h2)
    · exact blk _ (Ne.symm h3)
  · have := B.bs; simp; omega
  · exact ⟨rfl, rfl, rfl, by simp, fun k hkk h0 h1 h4 => blk k h0⟩
theorem DBus.putOut (B : DBus w base db rb gb kb m out lamp tr vt) (x : Int) : DBus (w.setCell ⟨db, 1, none⟩ (.string (outS (out ++ [x])))) base db rb gb kb m (out ++ [x]) lamp tr vt ∧ DTurned w (w.setCell ⟨db, 1, none⟩ (.string (outS (out ++ [x])))) db gb vt := by
  have oth : ∀ (j : Nat) (v : Value), j ≠ 1 → w.cell? ⟨db, j, none⟩ = some v → (w.setCell ⟨db, 1, none⟩ (.string (outS (out ++ [x])))).cell? ⟨db, j, none⟩ = some v := fun j v hj e => by
    rw [World.cell?_setCell_other _ _ _ _ (by intro e; injection e with e1 e2; exact hj e2.symm)]; exact e
  have blk : ∀ k, k ≠ db → (w.setCell ⟨db, 1, none⟩ (.string (outS (out ++ [x])))).heap[k]? = w.heap[k]? := fun k h => Below.heap_setCell w ⟨db, 1, none⟩ _ k h
  refine ⟨⟨oth 0 _ (by omega) B.c0, World.cell?_setCell_same _ _ _ B.c1, oth 2 _ (by omega) B.c2, oth 3 _ (by omega) B.c3, fun j => by rw [World.frozen?_setCell]; exact B.fz j, ?_, ?_, B.lb, B.lr, B.lg, B.lk, B.nr, B.ng, B.nk, ?_⟩, ?_⟩
  · exact owns_blocks B.rt fun k e => blk k (by have := (B.rt.lt k e).1; have := B.lb; omega)
  · refine B.D.blocks fun k e => ?_
    have h1 := B.nr; have h2 := B.ng; have h3 := B.nk
    rcases e with rfl | rfl | rfl
    · exact blk _ (Ne.symm h1)
    · exact blk _ (Ne.symm h2)
    · exact blk _ (Ne.symm h3)
  · have := B.bs; simp; omega
  · exact ⟨rfl, rfl, rfl, by simp, fun k hkk h0 h1 h4 => blk k h0⟩
end
end Go.Proofs.YtmfhimphlackiaaDoor
