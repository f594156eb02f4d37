/-
  sameEnd.
-/
import Derived.Test.YtjkencgcdlfjhaaGreatDoorKModel
import Derived.Test.YtjkencgcdlfjhaaGreatDoorJPlace
import Derived.Test.YtjkencgcdlfjhaaGreatDoorQRun2
namespace Go.Proofs.YtjkencgcdlfjhaaGreatDoor
open Go.RowKit Go.Maps
open Num
set_option linter.unusedVariables false
theorem load_place {w : World} {b : Nat} {S : St} {v : Value} {wc : Int} (A : RowIs w b 29 45 (plV S v wc)) : (loadVar 29 ⟨b, 0, none⟩).run Tryz.prog w = .ok (.agg (plA S v wc)) w :=
  run_loadVar_mid w b 0 29 ((List.range 45).map (plV S v wc)) _ (fun j u hu => by
    have hj : j < 45 := by have := (List.getElem?_eq_some_iff.1 hu).1; simpa using this
    rw [Nat.zero_add, A.cell hj]
    rw [List.getElem?_map, List.getElem?_range hj] at hu
    exact hu) Tryz.underlying29 rfl (by show _ = some 45; kernel_rfl)
theorem wpList_loadT {ops : Array Oper} {Q : Exit → Act → World → Prop} {a : Act} {w : World} {rest : List Oper} {o : Oper} (t : TypeId) (x : Operand) (hop : o.op = .load t x) (sb : Nat) (v : Value) (hgd : Region.wanted o (yielded ops a.tmps) = true) (hx : a.eval x = .pointer (some ⟨sb, 0, none⟩)) (hl : (loadVar t ⟨sb, 0, none⟩).run Tryz.prog w = .ok v w)
    (h : wpList Tryz.prog ops Q rest (a.put o.dst v) w) : wpList Tryz.prog ops Q (o :: rest) a w :=
  wpList_step fun K hK => by
    rw [if_pos hgd]
    unfold Oper.wp
    rw [exec_loadT hop hx w hl, Oper.upon_value]
    exact hK _ _ h
/-- two ends that no one tells apart, where traps are alike wherever they are -/
def OzSame : Oz → Oz → Prop
  | .trap _, .trap _ => True
  | .leave M, .leave N => M.lv = N.lv ∧ (∀ i, i < 4096 → M.m i = N.m i) ∧ ∀ r : Nat, 1 ≤ r → r ≤ 33 → M.x r = N.x r
  | .fell, .fell => True
  | _, _ => False
def rgS (S : St) (j : Nat) : Int := if j < 32 then S.r j else if j = 32 then S.hi else S.lo
theorem rgS_v (S : St) : ∀ j, j < 34 → stV S j = .int .u32 (rgS S j) := by
  intro j hj
  unfold stV rgS
  by_cases h : j < 32
  · rw [if_pos h, if_pos h]
  · rw [if_neg h, if_neg h]
    by_cases h2 : j = 32
    · rw [if_pos h2, if_pos h2]
    · rw [if_neg h2, if_neg h2, if_pos (by omega)]
theorem rgS_bd {S : St} (ok : S.ok) : ∀ j, j < 34 → 0 ≤ rgS S j ∧ rgS S j < 4294967296 := by
  intro j hj
  unfold rgS
  split
  · exact ok.r j
  · split
    · exact ok.hi
    · exact ok.lo
/-- what is told of an end: whether it trapped, a state, words -/
theorem stF_same {f : Nat → Value} {M N : Mz} {many ct : Int} (h1 : M.lv = N.lv) (h2 : ∀ r : Nat, 1 ≤ r → r ≤ 33 → M.x r = N.x r) : ∀ j, j < 43 → stF f M many ct j = stF f N many ct j := by
  intro j hj
  unfold stF
  by_cases h : 1 ≤ j ∧ j < 34
  · rw [if_pos h, if_pos h, h2 j h.1 (by omega)]
  · rw [if_neg h, if_neg h, h1]
/-- a state behind a run, as a state -/
def lfS (S : St) (M : Mz) (many : Int) : St := { S with r := fun j => if 1 ≤ j then M.x j else S.r j, hi := M.x 32, lo := M.x 33, pc := M.lv, nx := lo (M.lv + 4), ct := S.ct + many }
theorem stF_st (S : St) (M : Mz) (many : Int) : ∀ j, j < 43 → stV (lfS S M many) j = stF (stV S) M many S.ct j := by
  intro j hj
  by_cases h0 : j = 0
  · subst h0; rfl
  · by_cases h1 : j < 34
    · have e : stF (stV S) M many S.ct j = .int .u32 (M.x j) := by unfold stF; rw [if_pos (by omega)]
      rw [e]
      unfold stV lfS
      by_cases h : j < 32
      · rw [if_pos h]; show Value.int .u32 (if 1 ≤ j then M.x j else S.r j) = _; rw [if_pos (by omega)]
      · rw [if_neg h]
        by_cases h2 : j = 32
        · rw [if_pos h2, h2]
        · rw [if_neg h2, if_pos (by omega)]; rw [show j = 33 by omega]
    · have hc : j = 34 ∨ j = 35 ∨ j = 36 ∨ j = 37 ∨ j = 38 ∨ j = 39 ∨ j = 40 ∨ j = 41 ∨ j = 42 := by omega
      rcases hc with rfl | rfl | rfl | rfl | rfl | rfl | rfl | rfl | rfl <;> rfl
/-- what a run leaves behind of what was there: its own state and its own memory aside -/
structure Rn (w w' : World) (sb rb g0 : Nat) (S : St) (m : Nat → Int) : Prop where
  st : StRow w' sb S
  wd : ∃ gb, w'.cell? ⟨rb, 0, none⟩ = some (.slice (some ⟨gb, 0, none⟩) 4096 4096) ∧ (gb = g0 ∨ w.heap.size ≤ gb) ∧ (∀ i, i < 4096 → w'.cell? ⟨gb, i, none⟩ = some (.int .u32 (m i)))
  bk : ∀ k, k < w.heap.size → k ≠ sb → k ≠ rb → w'.heap[k]? = w.heap[k]?
  sz : w.heap.size ≤ w'.heap.size
  os : w'.os = w.os
  tape : w'.tape = w.tape
  output : w'.output = w.output
/-- the end's own words: trap, a state, memory -/
def ozT : Oz → Bool
  | .trap _ => true
  | _ => false
def ozS (S : St) (many : Int) : Oz → St
  | .leave M => lfS S M many
  | _ => S
def ozM (m : Nat → Int) : Oz → (Nat → Int)
  | .leave M => M.m
  | _ => m
theorem OzSame.told {S : St} {many : Int} {m : Nat → Int} {a b : Oz} (h : OzSame a b) : ozT a = ozT b ∧ stA (ozS S many a) = stA (ozS S many b) ∧ ∀ i, i < 4096 → ozM m a i = ozM m b i := by
  cases a <;> cases b <;> simp only [OzSame] at h
  · exact ⟨rfl, rfl, fun _ _ => rfl⟩
  · obtain ⟨h1, h2, h3⟩ := h
    refine ⟨rfl, stA_congr (fun j hj => ?_), h2⟩
    show stV (lfS S _ many) j = stV (lfS S _ many) j
    rw [stF_st _ _ _ j hj, stF_st _ _ _ j hj]
    exact stF_same h1 h3 j hj
  · exact ⟨rfl, rfl, fun _ _ => rfl⟩
end Go.Proofs.YtjkencgcdlfjhaaGreatDoor
/-
  sameEnd, walked.
-/
namespace Go.Proofs.YtjkencgcdlfjhaaGreatDoor
open Go.RowKit Go.Maps
open Num
set_option linter.unusedVariables false
theorem DMem.blocksP {w w' : World} {rb gb kb hb : Nat} {m : Nat → Int} {wt ht : Int → Bool} (D : DMem w rb gb kb hb m wt ht) (h : ∀ k, k = rb ∨ k = gb ∨ k = kb ∨ k = hb → w'.heap[k]? = w.heap[k]?) : DMem w' rb gb kb hb m wt ht :=
  ⟨D.d.blocks fun k hk => h k (by rcases hk with e | e | e <;> simp [e]), (World.cell?_of_block (a := ⟨rb, 2, none⟩) (h rb (by simp))).trans D.c2, fun p hp => (World.cell?_of_block (a := ⟨hb, p, none⟩) (h hb (by simp))).trans (D.hc p hp), fun p => (World.frozen?_of_block (a := ⟨kb, p, none⟩) (h kb (by simp))).trans (D.fk p), fun p => (World.frozen?_of_block (a := ⟨hb, p, none⟩) (h hb (by simp))).trans (D.fh p), D.ng, D.nr, D.nk, D.kr, fun p => (World.frozen?_of_block (a := ⟨rb, p, none⟩) (h rb (by simp))).trans (D.fr p)⟩
theorem DMem.hlt {w : World} {rb gb kb hb : Nat} {m : Nat → Int} {wt ht : Int → Bool} (D : DMem w rb gb kb hb m wt ht) : rb < w.heap.size ∧ gb < w.heap.size ∧ kb < w.heap.size ∧ hb < w.heap.size := ⟨D.d.lt (.inl rfl), D.d.lt (.inr (.inl rfl)), D.d.lt (.inr (.inr rfl)), World.block_lt_of_cell? _ _ (D.hc 0 (by omega))⟩
structure Ck7 (W : World) (e1 e2 s1 s2 r1 r2 ga gc : Nat) (t : Bool) (F G : St) : Prop where
  a : W.cell? ⟨e1, 0, none⟩ = some (.bool t)
  b : W.cell? ⟨e2, 0, none⟩ = some (.bool t)
  c : W.cell? ⟨r1, 0, none⟩ = some (.slice (some ⟨ga, 0, none⟩) 4096 4096)
  d : W.cell? ⟨r2, 0, none⟩ = some (.slice (some ⟨gc, 0, none⟩) 4096 4096)
  x : StAt W s1 F
  y : StAt W s2 G
theorem Ck7.stays {W W' : World} {e1 e2 s1 s2 r1 r2 ga gc : Nat} {t : Bool} {F G : St} (C : Ck7 W e1 e2 s1 s2 r1 r2 ga gc t F G) (h : Below W.heap.size W W') : Ck7 W' e1 e2 s1 s2 r1 r2 ga gc t F G :=
  ⟨(h.cell (p := ⟨e1, 0, none⟩) (World.block_lt_of_cell? _ _ C.a)).trans C.a, (h.cell (p := ⟨e2, 0, none⟩) (World.block_lt_of_cell? _ _ C.b)).trans C.b, (h.cell (p := ⟨r1, 0, none⟩) (World.block_lt_of_cell? _ _ C.c)).trans C.c, (h.cell (p := ⟨r2, 0, none⟩) (World.block_lt_of_cell? _ _ C.d)).trans C.d, C.x.stays h, C.y.stays h⟩
theorem Rn.below {w w' wz : World} {sb rb g0 : Nat} {S : St} {m : Nat → Int} (R : Rn w w' sb rb g0 S m) (h : Below wz.heap.size wz w) (h1 : wz.heap.size ≤ sb) (h2 : wz.heap.size ≤ rb) : Below wz.heap.size wz w' :=
  ⟨R.os.trans h.os, R.tape.trans h.tape, R.output.trans h.output, Nat.le_trans h.size R.sz, fun k hk => (R.bk k (Nat.lt_of_lt_of_le hk h.size) (by omega) (by omega)).trans (h.block k hk)⟩
end Go.Proofs.YtjkencgcdlfjhaaGreatDoor
