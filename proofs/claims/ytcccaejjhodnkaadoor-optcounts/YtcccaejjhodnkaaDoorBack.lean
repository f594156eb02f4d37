/-
  slices.Backward over ops.
-/
import Derived.RangeFuncBox
import Derived.RangeFuncLeaves
import Derived.RangeFuncNested
import Derived.RangeFuncCalls
import Derived.Shelf.Abstract
import Derived.WalkKit
import Derived.OwnWalkIn
import Derived.TacticsInMore
import Derived.LoopNIn
import Derived.LoopIn
import Derived.Test.YtcccaejjhodnkaaDoorOptKnown
import Derived.Test.YtcccaejjhodnkaaDoorOptPass
import Derived.Test.YtcccaejjhodnkaaDoorPhase
namespace Go.Proofs.YtcccaejjhodnkaaDoor
open Go.RowKit Go.Maps Go.Shelf
open Num
set_option linter.unusedVariables false
attribute [local go_sem] Oper.semAt_some
/-- an op whose registers are ones -/
structure Opx.okW (o : Opx) : Prop where
  w0 : 0 ≤ wrX o
  w1 : wrX o < 64
  r : ∀ x ∈ rdX o, 0 ≤ x ∧ x < 64
  ok : o.ok
abbrev Oq := { o : Opx // o.okW }
def oq0 : Oq := ⟨⟨⟨#[]⟩, 0, 0, 0, 0, 0⟩, ⟨by decide, by decide, by decide, ⟨by decide, by decide, by decide, by decide, by decide, by decide, by decide, by decide, by decide, by decide⟩⟩⟩
def oqs (p : List Oq) : List Opx := p.map (·.1)
theorem oqs_of : ∀ (l : List Opx), (∀ o ∈ l, o.okW) → ∃ p : List Oq, oqs p = l
  | [], _ => ⟨[], rfl⟩
  | o :: l, h => by
    obtain ⟨p, hp⟩ := oqs_of l (fun x hx => h x (List.mem_cons_of_mem _ hx))
    exact ⟨⟨o, h o (List.mem_cons_self ..)⟩ :: p, by show o :: oqs p = _; rw [hp]⟩
/-- what has come when k rounds are over -/
def upto {α : Type} (f : Nat → α) (k : Nat) : List α := (List.range k).map f
theorem upto_succ {α : Type} (f : Nat → α) (k : Nat) : upto f (k + 1) = upto f k ++ [f k] := by simp [upto, List.range_succ]
theorem upto_length {α : Type} (f : Nat → α) (k : Nat) : (upto f k).length = k := by simp [upto]
/-- the round's number k: from the back -/
def bk (p : List Oq) (k : Nat) : Nat × Oq := (p.length - 1 - k, p[p.length - 1 - k]?.getD oq0)
def enO (x : Nat × Oq) : Array Value := #[.int .i64 (x.1 : Int), opV x.2.1]
/-- what has come, as ops, the last first turned round -/
def cameL (pre : List (Nat × Oq)) : List Opx := (pre.map (·.2.1)).reverse
theorem came_snoc (pre : List (Nat × Oq)) (x : Nat × Oq) : cameL (pre ++ [x]) = x.2.1 :: cameL pre := by simp [cameL]
theorem came_upto (p : List Oq) : ∀ k, k ≤ p.length → cameL (upto (bk p) k) = (oqs p).drop (p.length - k)
  | 0, _ => by simp [cameL, upto, oqs]
  | k + 1, h => by
    rw [upto_succ, came_snoc, came_upto p k (by omega)]
    have hlt : p.length - (k + 1) < (oqs p).length := by simp [oqs]; omega
    rw [List.drop_eq_getElem_cons hlt, show p.length - (k + 1) + 1 = p.length - k by omega]
    congr 1
    show ((p[p.length - 1 - k]?.getD oq0).1 : Opx) = _
    rw [List.getElem?_eq_getElem (by omega)]
    simp [oqs]
    congr 2
    omega
theorem came_all (p : List Oq) : cameL (upto (bk p) p.length) = oqs p := by rw [came_upto p _ (Nat.le_refl _), Nat.sub_self]; rfl
/-- the six cells of each op of a slice -/
def OpsC (W : World) (b off : Nat) (l : List Opx) : Prop := ∀ (i : Nat) (o : Opx), l[i]? = some o → ∀ (j : Nat) (u : Value), (opC o)[j]? = some u → W.cell? ⟨b, off + i * 6 + j, none⟩ = some u
theorem OpsC.block {W W' : World} {b off : Nat} {l : List Opx} (C : OpsC W b off l) (h : W'.heap[b]? = W.heap[b]?) : OpsC W' b off l := fun i o hi j u hj => (World.cell?_of_block (a := ⟨b, off + i * 6 + j, none⟩) h).trans (C i o hi j u hj)
set_option maxRecDepth 100000 in
set_option maxHeartbeats 2000000 in
theorem back1_in (F : Fence) (n : Nat) (h7 : F.fn 91) (hro : F.round = none) (hn : 1 ≤ n) (l Bs b off cap : Nat) (p : List Oq) (hreach : p.length ≤ 1000000) (J Jx : List (Nat × Oq) → World → Prop) (Kp : World → World → Prop) (hKr : ∀ W, Kp W W) (hKt : ∀ {A B C : World}, Kp A B → Kp B C → Kp A C)
    (hPI : ∀ {A B : World}, Kp A B → A.cell? ⟨Bs, 0, none⟩ = some (.slice (some ⟨b, off, none⟩) p.length cap) → OpsC A b off (oqs p) → B.cell? ⟨Bs, 0, none⟩ = some (.slice (some ⟨b, off, none⟩) p.length cap) ∧ OpsC B b off (oqs p))
    (hY : ∀ pre x W, J pre W → pre.length < p.length → YieldAt F (n - 1) Tryd.prog l (enO x) W fun e W' =>
      (e = .returned (.bool true) ∧ J (pre ++ [x]) W' ∧ Kp W W') ∨ (e = .returned (.bool false) ∧ Jx (pre ++ [x]) W'))
    (W : World) (hBs : W.cell? ⟨Bs, 0, none⟩ = some (.slice (some ⟨b, off, none⟩) p.length cap)) (hc : OpsC W b off (oqs p)) (h0 : J [] W) :
    CallsIn F n Tryd.prog 91 #[.func (.yield l) #[] #[], .pointer (some ⟨Bs, 0, none⟩)] W fun e W' => (∃ v, e = .returned v) ∧
      ((∃ ys, ys = upto (bk p) p.length ∧ J ys W') ∨ (∃ pre, (∃ k, k ≤ p.length ∧ pre = upto (bk p) k) ∧ Jx pre W')) := by
  refine callsIn_of_wp Tryd.func91 rfl h7 ?_ hro
  simp only [Tryd.ntmps91, List.size_toArray, List.length_cons, List.length_nil, Nat.reduceAdd, Nat.reduceSub, Array.replicate_succ, Array.replicate_zero, List.push_toArray, List.append_toArray, List.nil_append, List.cons_append]
  gi_wp2
  gi_loopw [3] (fun i wr => ∃ k : Nat, k ≤ p.length ∧ i = .int .i64 ((p.length : Int) - 1 - k) ∧ J (upto (bk p) k) wr ∧ Kp W wr)
    (fun i _ => (intOf i + 1).toNat)
  case atStart => exact ⟨0, Nat.zero_le _, by simp, h0, hKr _⟩
  case round =>
    obtain ⟨k, hk, rfl, hJs, hnx⟩ := hrel
    obtain ⟨hBr, hcr⟩ := hPI hnx hBs hc
    by_cases hlt : k < p.length
    · have hix : (oqs p)[p.length - 1 - k]? = some (bk p k).2.1 := by
        unfold bk oqs; rw [List.getElem?_map, List.getElem?_eq_getElem (by omega)]; rfl
      obtain ⟨x0, x1, x2, x3, x4, x5⟩ := op_cells (hcr _ _ hix)
      obtain ⟨fn, tmps, assign, body, hy, hR⟩ := hY _ (bk p k) wr hJs (by rw [upto_length]; exact hlt)
      have e1 : (((p.length - 1 - k : Nat) : Int)) = (p.length : Int) - 1 - k := by omega
      have e2 : ((p.length : Int) - 1 - k).toNat = p.length - 1 - k := by omega
      unfold enO opV at hy
      have e3 : (((bk p k).1 : Nat) : Int) = (p.length : Int) - 1 - k := e1
      rw [e3] at hy
      have g1 : 0 ≤ (p.length : Int) - 1 - k := by omega
      have g2 : (p.length : Int) - 1 - k < p.length := by omega
      clear hix e3 hcr hc hPI
      gi_wp2
      refine hR.mono ?_
      rintro e W3 (⟨rfl, hJ3, hk3⟩ | ⟨rfl, hJx3⟩)
      · gi_wp2
        go_roundw
        case rel => exact ⟨k + 1, by omega, by (congr 1; omega), by rw [upto_succ]; exact hJ3, hKt hnx hk3⟩
        case measure => simp [intOf]; omega
      · gi_wp2
        refine bodyPost_ret (results_none rfl _ _ _) rfl ?_
        exact ⟨⟨_, rfl⟩, .inr ⟨_, ⟨k + 1, by omega, (upto_succ _ _).symm⟩, hJx3⟩⟩
    · obtain rfl : k = p.length := by omega
      have g1 : ¬ 0 ≤ (p.length : Int) - 1 - p.length := by omega
      clear hPI hc hcr
      gi_wp2
      go_end0
      first | exact ⟨⟨_, rfl⟩, .inl ⟨_, rfl, hJs⟩⟩ | exact ⟨⟨_, rfl⟩, .inl hJs⟩
set_option maxHeartbeats 1000000 in
theorem back_in (F : Fence) (n : Nat) (h6 : F.fn 57) (hro : F.round = none) (a : Option Addr) (len cap : Nat) (w : World) :
    CallsIn F n Tryd.prog 57 #[.slice a len cap] w fun e w' => e = .returned (.func (.func 91) #[] #[.pointer (some ⟨w.heap.size, 0, none⟩)]) ∧ w' = w.alloc (.cells #[.slice a len cap] 22) := by
  refine callsIn_of_wp Tryd.func57 rfl h6 ?_ hro
  simp only [Tryd.ntmps57, List.size_toArray, List.length_cons, List.length_nil, Nat.reduceAdd, Nat.reduceSub, Array.replicate_succ, Array.replicate_zero, List.push_toArray, List.append_toArray, List.nil_append, List.cons_append]
  gi_wp2
  go_ret
  exact ⟨rfl, rfl⟩
/-- w' is w but for two blocks, below a number -/
structure KpO (n₀ x1 x2 : Nat) (A B : World) : Prop where
  os : B.os = A.os
  tape : B.tape = A.tape
  output : B.output = A.output
  size : A.heap.size ≤ B.heap.size
  block : ∀ k, k < n₀ → k ≠ x1 → k ≠ x2 → B.heap[k]? = A.heap[k]?
theorem KpO.refl {n₀ x1 x2 : Nat} (A : World) : KpO n₀ x1 x2 A A := ⟨rfl, rfl, rfl, Nat.le_refl _, fun _ _ _ _ => rfl⟩
theorem KpO.trans {n₀ x1 x2 : Nat} {A B C : World} (h : KpO n₀ x1 x2 A B) (g : KpO n₀ x1 x2 B C) : KpO n₀ x1 x2 A C := ⟨g.os.trans h.os, g.tape.trans h.tape, g.output.trans h.output, Nat.le_trans h.size g.size, fun k hk h1 h2 => (g.block k hk h1 h2).trans (h.block k hk h1 h2)⟩
theorem KpO.of_below {n₀ x1 x2 : Nat} {A B : World} (h : Below A.heap.size A B) (hn : n₀ ≤ A.heap.size) : KpO n₀ x1 x2 A B := ⟨h.os, h.tape, h.output, h.size, fun k hk _ _ => h.block k (by omega)⟩
theorem KpO.of_grown {n₀ x1 x2 b : Nat} {A B : World} (h : A.grownBy B (some b)) (hn : n₀ ≤ A.heap.size) (hb : b = x1 ∨ b = x2 ∨ n₀ ≤ b) : KpO n₀ x1 x2 A B := ⟨h.os, h.tape, h.output, h.size, fun k hk h1 h2 => h.block k (by omega) (by intro e; have := Option.some.inj e; omega)⟩
theorem KpO.put {n₀ x1 x2 : Nat} {w : World} (hn : n₀ ≤ w.heap.size) (W : World) (l : Nat) (o o' : Obj) (hl : w.heap.size ≤ l) (h : W.heap[l]? = some o) (_ : o.isCells = false) (_ : o.isWalk = false) : KpO n₀ x1 x2 W (W.putObj l o') := by
  have := grownBy_putObj' W l o'
  exact ⟨this.os, this.tape, this.output, this.size, fun k hk _ _ => this.block k (by have := (Array.getElem?_eq_some_iff.1 h).1; omega) (by intro e; have := Option.some.inj e; omega)⟩
theorem back_stops (F : Fence) (n : Nat) (h8 : F.fn 91) (hro : F.round = none) (hn : 1 ≤ n) (Bs n₀ x1 x2 b off cap : Nat) (p : List Oq) (hreach : p.length ≤ 1000000) (w : World) (hBs : Bs < w.heap.size) (hn₀ : n₀ ≤ w.heap.size) (hBs0 : Bs < n₀) (hb0 : b < n₀) (hx : Bs ≠ x1 ∧ Bs ≠ x2 ∧ b ≠ x1 ∧ b ≠ x2)
    (l : List Opx) (hp : oqs p = l) (hc : w.cell? ⟨Bs, 0, none⟩ = some (.slice (some ⟨b, off, none⟩) l.length cap)) (hI : OpsC w b off l) :
    SeqStopsK F n Tryd.prog 91 #[.pointer (some ⟨Bs, 0, none⟩)] enO (KpO n₀ x1 x2) (fun ys => ys = upto (bk p) p.length)
      (fun pre => ∃ k, k ≤ p.length ∧ pre = upto (bk p) k) p.length w := fun lo J Jx W hW _ _ hY h0 => by
  subst hp
  rw [show (oqs p).length = p.length by simp [oqs]] at hc
  have hc' := (hW.cell (p := ⟨Bs, 0, none⟩) hBs).trans hc
  exact back1_in F n h8 hro hn lo Bs b off cap p hreach J Jx (KpO n₀ x1 x2) KpO.refl KpO.trans (fun h h1 h2 => ⟨(World.cell?_of_block (a := ⟨Bs, 0, none⟩) (h.block Bs hBs0 hx.1 hx.2.1)).trans h1, h2.block (h.block b hb0 hx.2.2.1 hx.2.2.2)⟩) hY W hc' (hI.block (hW.block b (by omega))) h0
theorem row_kept {A B : World} {row : Option Nat} {b : Nat} {t : TypeId} {n : Nat} {f : Nat → Value} (R : RowIs A b t n f) (hg : A.grownBy B row) (hr : ∀ r, row = some r → ∃ o : Obj, A.heap[r]? = some o ∧ o.isCells = false) : RowIs B b t n f := by
  refine R.block (hg.block b R.lt ?_)
  intro e
  obtain ⟨o, h1, h2⟩ := hr b e.symm
  obtain ⟨cur, h3, _⟩ := R
  rw [h3] at h1
  cases h1
  cases h2
end Go.Proofs.YtcccaejjhodnkaaDoor
