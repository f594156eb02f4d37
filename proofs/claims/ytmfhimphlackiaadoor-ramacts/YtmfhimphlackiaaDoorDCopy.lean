/-
  The document's memory, copied.
-/
import Derived.Test.YtmfhimphlackiaaDoorDNew
import Derived.Test.YtmfhimphlackiaaDoorPhase
namespace Go.Proofs.YtmfhimphlackiaaDoor
open Go.RowKit Go.Maps
open Num
set_option linter.unusedVariables false
theorem DMem.stays {w w' : World} {rb gb kb hb : Nat} {m : Nat → Int} {wt ht : Int → Bool} (D : DMem w rb gb kb hb m wt ht) (h : Below w.heap.size w w') : DMem w' rb gb kb hb m wt ht :=
  ⟨D.d.stays h, (h.cell (World.block_lt_of_cell? _ _ D.c2)).trans D.c2, fun p hp => (h.cell (World.block_lt_of_cell? _ _ (D.hc p hp))).trans (D.hc p hp),
   fun p => (h.frozen (p := ⟨kb, p, none⟩) (show kb < w.heap.size from D.d.lt (Or.inr (Or.inr rfl)))).trans (D.fk p), fun p => (h.frozen (p := ⟨hb, p, none⟩) (show hb < w.heap.size from World.block_lt_of_cell? _ _ (D.hc 0 (by omega)))).trans (D.fh p), D.ng, D.nr, D.nk, D.kr, fun p => (h.frozen (p := ⟨rb, p, none⟩) (show rb < w.heap.size from D.d.lt (Or.inl rfl))).trans (D.fr p)⟩
theorem flag_other {w : World} {a k j p : Nat} {b : Bool} {v : Value} (hk : k ≠ a ∨ p ≠ j) (h : w.cell? ⟨k, p, none⟩ = some v) : (w.setCell ⟨a, j, none⟩ (.bool b)).drew.cell? ⟨k, p, none⟩ = some v := by
  show (w.setCell ⟨a, j, none⟩ (.bool b)).cell? ⟨k, p, none⟩ = some v
  rw [World.cell?_setCell_other _ _ _ _ (by intro e; injection e with e1 e2; rcases hk with hk | hk; exact hk e1.symm; exact hk e2.symm)]; exact h
theorem flag_fz {w : World} {a k j p : Nat} {b : Bool} (h : w.frozen? ⟨k, p, none⟩ = false) : (w.setCell ⟨a, j, none⟩ (.bool b)).drew.frozen? ⟨k, p, none⟩ = false := by
  show (w.setCell ⟨a, j, none⟩ (.bool b)).frozen? ⟨k, p, none⟩ = false
  simpa using h
theorem DMem.flagK {w : World} {rb gb kb hb : Nat} {m : Nat → Int} {wt ht : Int → Bool} (D : DMem w rb gb kb hb m wt ht) (j : Nat) (hj : j < 64) (b : Bool) (wt' : Int → Bool) (h : ∀ p : Nat, p < 64 → wt' p = if p = j then b else wt p) : DMem (w.setCell ⟨kb, j, none⟩ (.bool b)).drew rb gb kb hb m wt' ht := by
  refine ⟨⟨flag_other (.inl (Ne.symm D.kr)) D.d.c0, flag_other (.inl (Ne.symm D.kr)) D.d.c1, (Below.heap_setCell w ⟨kb, j, none⟩ (.bool b) gb (Ne.symm D.d.nk)).trans D.d.row, fun p hp => ?_, D.d.nr, D.d.nk, D.d.mb⟩, flag_other (.inl (Ne.symm D.kr)) D.c2, fun p hp => flag_other (.inl D.nk) (D.hc p hp), fun p => flag_fz (D.fk p), fun p => flag_fz (D.fh p), D.ng, D.nr, D.nk, D.kr, fun p => flag_fz (D.fr p)⟩
  rw [h p hp]
  by_cases e : p = j
  · subst e; rw [if_pos rfl]; exact World.cell?_setCell_same _ _ _ (D.d.wc p hp)
  · rw [if_neg e]; exact flag_other (.inr e) (D.d.wc p hp)
theorem DMem.flagH {w : World} {rb gb kb hb : Nat} {m : Nat → Int} {wt ht : Int → Bool} (D : DMem w rb gb kb hb m wt ht) (j : Nat) (hj : j < 64) (b : Bool) (ht' : Int → Bool) (h : ∀ p : Nat, p < 64 → ht' p = if p = j then b else ht p) : DMem (w.setCell ⟨hb, j, none⟩ (.bool b)).drew rb gb kb hb m wt ht' := by
  refine ⟨⟨flag_other (.inl (Ne.symm D.nr)) D.d.c0, flag_other (.inl (Ne.symm D.nr)) D.d.c1, (Below.heap_setCell w ⟨hb, j, none⟩ (.bool b) gb (Ne.symm D.ng)).trans D.d.row, fun p hp => flag_other (.inl (Ne.symm D.nk)) (D.d.wc p hp), D.d.nr, D.d.nk, D.d.mb⟩, flag_other (.inl (Ne.symm D.nr)) D.c2, fun p hp => ?_, fun p => flag_fz (D.fk p), fun p => flag_fz (D.fh p), D.ng, D.nr, D.nk, D.kr, fun p => flag_fz (D.fr p)⟩
  rw [h p hp]
  by_cases e : p = j
  · subst e; rw [if_pos rfl]; exact World.cell?_setCell_same _ _ _ (D.hc p hp)
  · rw [if_neg e]; exact flag_other (.inr e) (D.hc p hp)
def fl (f : Int → Bool) (j : Nat) (p : Int) : Bool := decide (p < j) && f p
theorem fl_zero (f : Int → Bool) (p : Nat) : false = fl f 0 (p : Int) := by
  unfold fl
  rw [show decide ((p : Int) < ((0 : Nat) : Int)) = false by simp]
  rfl
theorem fl_succ (f : Int → Bool) (j p : Nat) : fl f (j + 1) p = if p = j then f j else fl f j p := by
  unfold fl
  by_cases e : p = j
  · subst e; rw [if_pos rfl]; simp; omega
  · rw [if_neg e]; congr 1; simp; omega
theorem DMem.same {w : World} {rb gb kb hb : Nat} {m : Nat → Int} {wt ht wt' ht' : Int → Bool} (D : DMem w rb gb kb hb m wt ht) (h : ∀ p : Nat, p < 64 → wt p = wt' p) (g : ∀ p : Nat, p < 64 → ht p = ht' p) : DMem w rb gb kb hb m wt' ht' :=
  ⟨⟨D.d.c0, D.d.c1, D.d.row, fun p hp => by rw [← h p hp]; exact D.d.wc p hp, D.d.nr, D.d.nk, D.d.mb⟩, D.c2, fun p hp => by rw [← g p hp]; exact D.hc p hp, D.fk, D.fh, D.ng, D.nr, D.nk, D.kr, D.fr⟩
theorem DRam.words {w : World} {rb gb kb : Nat} {m : Nat → Int} {wt : Int → Bool} (D : DRam w rb gb kb m wt) : WordsIn w (.slice (some ⟨gb, 0, none⟩) 4096 4096) ((List.range 4096).map m) := by
  have hlen : ((List.range 4096).map m).length = 4096 := by simp
  have hg : ∀ i, i < 4096 → ((List.range 4096).map m).getD i 0 = m i := fun i hi => by rw [List.getD_eq_getElem?_getD, List.getElem?_map, List.getElem?_range hi]; rfl
  refine ⟨⟨some ⟨gb, 0, none⟩, 4096, by rw [hlen], by omega, fun _ => ⟨gb, 0, rfl, fun i hi => ?_⟩⟩, fun i => ?_⟩
  · rw [hlen] at hi; rw [hg i hi, Nat.zero_add]; exact D.cell i hi
  · unfold mw
    by_cases hi : i < 4096
    · rw [hg i hi]; exact D.mb i
    · rw [List.getD_eq_getElem?_getD, List.getElem?_eq_none (by omega)]; simp
theorem words_all (m : Nat → Int) : ∀ i, i < 4096 → mw ((List.range 4096).map m) i = m i := fun i hi => by unfold mw; rw [List.getD_eq_getElem?_getD, List.getElem?_map, List.getElem?_range hi]; rfl
structure Ck3 (W : World) (p1 v1 p2 v2 p3 v3 : Nat) (o : Nat) (b : Bool) : Prop where
  z0 : W.cell? ⟨p1, o, none⟩ = some (.slice (some ⟨v1, 0, none⟩) 64 64)
  z1 : W.cell? ⟨p2, o, none⟩ = some (.slice (some ⟨v2, 0, none⟩) 64 64)
  z2 : W.cell? ⟨v2, p3, none⟩ = some (.bool b)
end Go.Proofs.YtmfhimphlackiaaDoor
