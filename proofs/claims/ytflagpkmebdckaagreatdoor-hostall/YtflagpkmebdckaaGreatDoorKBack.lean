/-
  slices.Backward over ops.
-/
import Derived.RangeFuncBox
import Derived.RangeFuncLeaves
import Derived.RangeFuncNested
import Derived.RangeFuncCalls
import Derived.Shelf.Abstract
import Derived.WalkKit
import Derived.OwnWalkIn
import Derived.TacticsInMore
import Derived.LoopNIn
import Derived.LoopIn
import Derived.Laws.Tables
import Derived.Test.YtflagpkmebdckaaGreatDoorKSerial
import Derived.Test.YtflagpkmebdckaaGreatDoorKPlPure
import Derived.Test.YtflagpkmebdckaaGreatDoorKKDecode
import Derived.Test.YtflagpkmebdckaaGreatDoorKLw7
import Derived.Test.YtflagpkmebdckaaGreatDoorKGHost3
namespace Go.Proofs.YtflagpkmebdckaaGreatDoor
open Go.RowKit Go.Maps Go.Shelf
open Num
set_option linter.unusedVariables false
attribute [local go_sem] Oper.semAt_some
/-- an op whose registers are ones -/
structure Opx.okW (o : Opx) : Prop where
  w0 : 0 ≤ wrX o
  w1 : wrX o < 64
  r : ∀ x ∈ rdX o, 0 ≤ x ∧ x < 64
  ok : o.ok
abbrev Oq := { o : Opx // o.okW }
def oq0 : Oq := ⟨⟨⟨#[]⟩, 0, 0, 0, 0, 0⟩, ⟨by decide, by decide, by decide, ⟨by decide, by decide, by decide, by decide, by decide, by decide, by decide, by decide, by decide, by decide⟩⟩⟩
def oqs (p : List Oq) : List Opx := p.map (·.1)
theorem oqs_of : ∀ (l : List Opx), (∀ o ∈ l, o.okW) → ∃ p : List Oq, oqs p = l
  | [], _ => ⟨[], rfl⟩
  | o :: l, h => by
    obtain ⟨p, hp⟩ := oqs_of l (fun x hx => h x (List.mem_cons_of_mem _ hx))
    exact ⟨⟨o, h o (List.mem_cons_self ..)⟩ :: p, by show o :: oqs p = _; rw [hp]⟩
/-- what has come when k rounds are over -/
def upto {α : Type} (f : Nat → α) (k : Nat) : List α := (List.range k).map f
theorem upto_succ {α : Type} (f : Nat → α) (k : Nat) : upto f (k + 1) = upto f k ++ [f k] := by simp [upto, List.range_succ]
theorem upto_length {α : Type} (f : Nat → α) (k : Nat) : (upto f k).length = k := by simp [upto]
/-- the round's number k: from the back -/
def bk (p : List Oq) (k : Nat) : Nat × Oq := (p.length - 1 - k, p[p.length - 1 - k]?.getD oq0)
def enO (x : Nat × Oq) : Array Value := #[.int .i64 (x.1 : Int), opV x.2.1]
/-- what has come, as ops, the last first turned round -/
def cameL (pre : List (Nat × Oq)) : List Opx := (pre.map (·.2.1)).reverse
theorem came_snoc (pre : List (Nat × Oq)) (x : Nat × Oq) : cameL (pre ++ [x]) = x.2.1 :: cameL pre := by simp [cameL]
theorem came_upto (p : List Oq) : ∀ k, k ≤ p.length → cameL (upto (bk p) k) = (oqs p).drop (p.length - k)
  | 0, _ => by simp [cameL, upto, oqs]
  | k + 1, h => by
    rw [upto_succ, came_snoc, came_upto p k (by omega)]
    have hlt : p.length - (k + 1) < (oqs p).length := by simp [oqs]; omega
    rw [List.drop_eq_getElem_cons hlt, show p.length - (k + 1) + 1 = p.length - k by omega]
    congr 1
    show ((p[p.length - 1 - k]?.getD oq0).1 : Opx) = _
    rw [List.getElem?_eq_getElem (by omega)]
    simp [oqs]
    congr 2
    omega
theorem came_all (p : List Oq) : cameL (upto (bk p) p.length) = oqs p := by rw [came_upto p _ (Nat.le_refl _), Nat.sub_self]; rfl
/-- the six cells of each op of a slice -/
def OpsC (W : World) (b off : Nat) (l : List Opx) : Prop := ∀ (i : Nat) (o : Opx), l[i]? = some o → ∀ (j : Nat) (u : Value), (opC o)[j]? = some u → W.cell? ⟨b, off + i * 6 + j, none⟩ = some u
theorem OpsC.block {W W' : World} {b off : Nat} {l : List Opx} (C : OpsC W b off l) (h : W'.heap[b]? = W.heap[b]?) : OpsC W' b off l := fun i o hi j u hj => (World.cell?_of_block (a := ⟨b, off + i * 6 + j, none⟩) h).trans (C i o hi j u hj)
set_option maxRecDepth 100000 in
set_option maxHeartbeats 2000000 in
theorem back1_in (F : Fence) (n : Nat) (h7 : F.fn 202) (hro : F.round = none) (hn : 1 ≤ n) (l Bs b off cap : Nat) (p : List Oq) (hreach : p.length ≤ 1000000) (J Jx : List (Nat × Oq) → World → Prop) (Kp : World → World → Prop) (hKr : ∀ W, Kp W W) (hKt : ∀ {A B C : World}, Kp A B → Kp B C → Kp A C)
    (hPI : ∀ {A B : World}, Kp A B → A.cell? ⟨Bs, 0, none⟩ = some (.slice (some ⟨b, off, none⟩) p.length cap) → OpsC A b off (oqs p) → B.cell? ⟨Bs, 0, none⟩ = some (.slice (some ⟨b, off, none⟩) p.length cap) ∧ OpsC B b off (oqs p))
    (hY : ∀ pre x W, J pre W → pre.length < p.length → YieldAt F (n - 1) Tryz.prog l (enO x) W fun e W' =>
      (e = .returned (.bool true) ∧ J (pre ++ [x]) W' ∧ Kp W W') ∨ (e = .returned (.bool false) ∧ Jx (pre ++ [x]) W'))
    (W : World) (hBs : W.cell? ⟨Bs, 0, none⟩ = some (.slice (some ⟨b, off, none⟩) p.length cap)) (hc : OpsC W b off (oqs p)) (h0 : J [] W) :
    CallsIn F n Tryz.prog 202 #[.func (.yield l) #[] #[], .pointer (some ⟨Bs, 0, none⟩)] W fun e W' => (∃ v, e = .returned v) ∧
      ((∃ ys, ys = upto (bk p) p.length ∧ J ys W') ∨ (∃ pre, (∃ k, k ≤ p.length ∧ pre = upto (bk p) k) ∧ Jx pre W')) := by
  refine callsIn_of_wp Tryz.func202 rfl h7 ?_ hro
  simp only [Tryz.ntmps202, List.size_toArray, List.length_cons, List.length_nil, Nat.reduceAdd, Nat.reduceSub, Array.replicate_succ, Array.replicate_zero, List.push_toArray, List.append_toArray, List.nil_append, List.cons_append]
  gi_wp2
  gi_loopw [3] (fun i wr => ∃ k : Nat, k ≤ p.length ∧ i = .int .i64 ((p.length : Int) - 1 - k) ∧ J (upto (bk p) k) wr ∧ Kp W wr)
    (fun i _ => (intOf i + 1).toNat)
  case atStart => exact ⟨0, Nat.zero_le _, by simp, h0, hKr _⟩
  case round =>
    obtain ⟨k, hk, rfl, hJs, hnx⟩ := hrel
    obtain ⟨hBr, hcr⟩ := hPI hnx hBs hc
    by_cases hlt : k < p.length
    · have hix : (oqs p)[p.length - 1 - k]? = some (bk p k).2.1 := by
        unfold bk oqs; rw [List.getElem?_map, List.getElem?_eq_getElem (by omega)]; rfl
      obtain ⟨x0, x1, x2, x3, x4, x5⟩ := op_cells (hcr _ _ hix)
      obtain ⟨fn, tmps, assign, body, hy, hR⟩ := hY _ (bk p k) wr hJs (by rw [upto_length]; exact hlt)
      have e1 : (((p.length - 1 - k : Nat) : Int)) = (p.length : Int) - 1 - k := by omega
      have e2 : ((p.length : Int) - 1 - k).toNat = p.length - 1 - k := by omega
      unfold enO opV at hy
      have e3 : (((bk p k).1 : Nat) : Int) = (p.length : Int) - 1 - k := e1
      rw [e3] at hy
      have g1 : 0 ≤ (p.length : Int) - 1 - k := by omega
      have g2 : (p.length : Int) - 1 - k < p.length := by omega
      clear hix e3 hcr hc hPI
      gi_wp2
      refine hR.mono ?_
      rintro e W3 (⟨rfl, hJ3, hk3⟩ | ⟨rfl, hJx3⟩)
      · gi_wp2
        go_roundw
        case rel => exact ⟨k + 1, by omega, by (congr 1; omega), by rw [upto_succ]; exact hJ3, hKt hnx hk3⟩
        case measure => simp [intOf]; omega
      · gi_wp2
        refine bodyPost_ret (results_none rfl _ _ _) rfl ?_
        exact ⟨⟨_, rfl⟩, .inr ⟨_, ⟨k + 1, by omega, (upto_succ _ _).symm⟩, hJx3⟩⟩
    · obtain rfl : k = p.length := by omega
      have g1 : ¬ 0 ≤ (p.length : Int) - 1 - p.length := by omega
      clear hPI hc hcr
      gi_wp2
      go_end0
      first | exact ⟨⟨_, rfl⟩, .inl ⟨_, rfl, hJs⟩⟩ | exact ⟨⟨_, rfl⟩, .inl hJs⟩
set_option maxHeartbeats 1000000 in
theorem back_in (F : Fence) (n : Nat) (h6 : F.fn 135) (hro : F.round = none) (a : Option Addr) (len cap : Nat) (w : World) :
    CallsIn F n Tryz.prog 135 #[.slice a len cap] w fun e w' => e = .returned (.func (.func 202) #[] #[.pointer (some ⟨w.heap.size, 0, none⟩)]) ∧ w' = w.alloc (.cells #[.slice a len cap] 52) := by
  refine callsIn_of_wp Tryz.func135 rfl h6 ?_ hro
  simp only [Tryz.ntmps135, List.size_toArray, List.length_cons, List.length_nil, Nat.reduceAdd, Nat.reduceSub, Array.replicate_succ, Array.replicate_zero, List.push_toArray, List.append_toArray, List.nil_append, List.cons_append]
  gi_wp2
  go_ret
  exact ⟨rfl, rfl⟩
/-- w' is w but for two blocks, below a number -/
structure KpO (n₀ x1 x2 : Nat) (A B : World) : Prop where
  os : B.os = A.os
  tape : B.tape = A.tape
  output : B.output = A.output
  size : A.heap.size ≤ B.heap.size
  block : ∀ k, k < n₀ → k ≠ x1 → k ≠ x2 → B.heap[k]? = A.heap[k]?
theorem KpO.refl {n₀ x1 x2 : Nat} (A : World) : KpO n₀ x1 x2 A A := ⟨rfl, rfl, rfl, Nat.le_refl _, fun _ _ _ _ => rfl⟩
theorem KpO.trans {n₀ x1 x2 : Nat} {A B C : World} (h : KpO n₀ x1 x2 A B) (g : KpO n₀ x1 x2 B C) : KpO n₀ x1 x2 A C := ⟨g.os.trans h.os, g.tape.trans h.tape, g.output.trans h.output, Nat.le_trans h.size g.size, fun k hk h1 h2 => (g.block k hk h1 h2).trans (h.block k hk h1 h2)⟩
theorem KpO.of_below {n₀ x1 x2 : Nat} {A B : World} (h : Below A.heap.size A B) (hn : n₀ ≤ A.heap.size) : KpO n₀ x1 x2 A B := ⟨h.os, h.tape, h.output, h.size, fun k hk _ _ => h.block k (by omega)⟩
theorem KpO.of_grown {n₀ x1 x2 b : Nat} {A B : World} (h : A.grownBy B (some b)) (hn : n₀ ≤ A.heap.size) (hb : b = x1 ∨ b = x2 ∨ n₀ ≤ b) : KpO n₀ x1 x2 A B := ⟨h.os, h.tape, h.output, h.size, fun k hk h1 h2 => h.block k (by omega) (by intro e; have := Option.some.inj e; omega)⟩
theorem KpO.put {n₀ x1 x2 : Nat} {w : World} (hn : n₀ ≤ w.heap.size) (W : World) (l : Nat) (o o' : Obj) (hl : w.heap.size ≤ l) (h : W.heap[l]? = some o) (_ : o.isCells = false) (_ : o.isWalk = false) : KpO n₀ x1 x2 W (W.putObj l o') := by
  have := grownBy_putObj' W l o'
  exact ⟨this.os, this.tape, this.output, this.size, fun k hk _ _ => this.block k (by have := (Array.getElem?_eq_some_iff.1 h).1; omega) (by intro e; have := Option.some.inj e; omega)⟩
theorem back_stops (F : Fence) (n : Nat) (h8 : F.fn 202) (hro : F.round = none) (hn : 1 ≤ n) (Bs n₀ x1 x2 b off cap : Nat) (p : List Oq) (hreach : p.length ≤ 1000000) (w : World) (hBs : Bs < w.heap.size) (hn₀ : n₀ ≤ w.heap.size) (hBs0 : Bs < n₀) (hb0 : b < n₀) (hx : Bs ≠ x1 ∧ Bs ≠ x2 ∧ b ≠ x1 ∧ b ≠ x2)
    (l : List Opx) (hp : oqs p = l) (hc : w.cell? ⟨Bs, 0, none⟩ = some (.slice (some ⟨b, off, none⟩) l.length cap)) (hI : OpsC w b off l) :
    SeqStopsK F n Tryz.prog 202 #[.pointer (some ⟨Bs, 0, none⟩)] enO (KpO n₀ x1 x2) (fun ys => ys = upto (bk p) p.length)
      (fun pre => ∃ k, k ≤ p.length ∧ pre = upto (bk p) k) p.length w := fun lo J Jx W hW _ _ hY h0 => by
  subst hp
  rw [show (oqs p).length = p.length by simp [oqs]] at hc
  have hc' := (hW.cell (p := ⟨Bs, 0, none⟩) hBs).trans hc
  exact back1_in F n h8 hro hn lo Bs b off cap p hreach J Jx (KpO n₀ x1 x2) KpO.refl KpO.trans (fun h h1 h2 => ⟨(World.cell?_of_block (a := ⟨Bs, 0, none⟩) (h.block Bs hBs0 hx.1 hx.2.1)).trans h1, h2.block (h.block b hb0 hx.2.2.1 hx.2.2.2)⟩) hY W hc' (hI.block (hW.block b (by omega))) h0
theorem row_kept {A B : World} {row : Option Nat} {b : Nat} {t : TypeId} {n : Nat} {f : Nat → Value} (R : RowIs A b t n f) (hg : A.grownBy B row) (hr : ∀ r, row = some r → ∃ o : Obj, A.heap[r]? = some o ∧ o.isCells = false) : RowIs B b t n f := by
  refine R.block (hg.block b R.lt ?_)
  intro e
  obtain ⟨o, h1, h2⟩ := hr b e.symm
  obtain ⟨cur, h3, _⟩ := R
  rw [h3] at h1
  cases h1
  cases h2
end Go.Proofs.YtflagpkmebdckaaGreatDoor
/-
  Package opt: Dead.
-/
namespace Go.Proofs.YtflagpkmebdckaaGreatDoor
open Go.RowKit Go.Maps Go.Shelf
open Num
set_option linter.unusedVariables false
attribute [local go_sem] Oper.semAt_some
/-- what nobody asks for -/
def ndA (n : Nx) : Array Value := ((List.range 64).map fun (j : Nat) => Value.bool (n j)).toArray
theorem ndA_size (n : Nx) : (ndA n).size = 64 := by simp [ndA]
theorem ndA_one (n : Nx) : (ndA n).all (·.oneCell') = true := by
  rw [Array.all_eq_true_iff_forall_mem]
  intro x hx
  simp only [ndA, List.mem_toArray, List.mem_map] at hx
  obtain ⟨i, _, rfl⟩ := hx
  rfl
theorem nd_row {w : World} {b : Nat} {n : Nx} (h : w.heap[b]? = some (.cells (ndA n) 226 (0, 0))) : NeedAt w b n :=
  ⟨_, h, ndA_size n, fun j hj => by unfold ndA; rw [List.getElem?_toArray, List.getElem?_map, List.getElem?_range hj]; rfl⟩
theorem nd_built : Tryz.prog.built 226 [] = some (ndA fun _ => false) := by kernel_rfl
theorem nd_zero (w : World) : (zeroValue 226).run Tryz.prog w = .ok (.agg (ndA fun _ => false)) w := by kernel_rfl
theorem setRow_other (w : World) (b k : Nat) (cs : Array Value) (h : k ≠ b) : (w.setRow b cs).heap[k]? = w.heap[k]? := by
  unfold World.setRow
  simp only
  rw [Array.getElem?_modify]
  rw [if_neg (by omega)]
theorem below_setRow' {B : Nat} {w w' : World} {b : Nat} (h : Below B w w') (hb : B ≤ b) (cs : Array Value) : Below B w (w'.setRow b cs) :=
  h.trans ⟨rfl, rfl, rfl, by simp [World.setRow], fun k hk => setRow_other _ _ _ _ (by omega)⟩
section
variable {ops : Array Oper} {rest : List Oper} {o : Oper} {a : Act} {w : World} {Q : Exit → Act → World → Prop}
theorem wpList_buildNd (hg : o.guard = none) (ho : o.op = .build 226 #[]) (h : wpList Tryz.prog ops Q rest (a.put o.dst (.agg (ndA fun _ => false))) w) : wpList Tryz.prog ops Q (o :: rest) a w := by
  have e : Tryz.prog.built 226 (Array.map (fun ((i, x) : Nat × Operand) => (i, a.eval x)) #[]).toList = some (ndA fun _ => false) := by simpa using nd_built
  refine wpList_build hg 226 #[] ho (by rw [e]; rfl) ?_
  rw [e]; exact h
theorem wpList_allocNd (hg : o.guard = none) (hop : o.op = Op.alloc 226)
    (h : wpList Tryz.prog ops Q rest (a.put o.dst (.pointer (some ⟨w.heap.size, 0, none⟩))) (w.alloc (.cells (ndA fun _ => false) 226))) : wpList Tryz.prog ops Q (o :: rest) a w := by
  refine wpList_plain hg fun K hK => ?_
  unfold Oper.wp
  have e : (execOp a.eval o).run Tryz.prog w = .ok (.value (.pointer (some ⟨w.heap.size, 0, none⟩))) (w.alloc (.cells (ndA fun _ => false) 226)) := by
    unfold execOp; rw [hop]
    simp only [Instr.alloc, newVar, newRow, Sem.run_bind, nd_zero, Result.andThen_ok]
    rfl
  rw [e, Oper.upon_value]
  exact hK _ _ h
end
theorem okW_of {o : Opx} {many : Int} (h : opE o many = 0) (ok : o.ok) : o.okW := by
  obtain ⟨hk, hb, _⟩ := opE_zero.1 h
  have hl := kn_lt o.s
  unfold bndB at hb
  simp only [Bool.and_eq_true] at hb
  obtain ⟨⟨⟨⟨b1, b2⟩, b3⟩, _⟩, _⟩ := hb
  have hd : rD o.k = 2 → 1 ≤ o.d ∧ o.d < 64 := fun e => by rw [e] at b1; unfold alw at b1; simpa using b1
  have ha : rA o.k = 1 → 0 ≤ o.a ∧ o.a < 64 := fun e => by rw [e] at b2; unfold alw at b2; simpa using b2
  have hbb : rB o.k = 1 → 0 ≤ o.b ∧ o.b < 64 := fun e => by rw [e] at b3; unfold alw at b3; simpa using b3
  refine ⟨?_, ?_, fun x hx => ?_, ok⟩
  · unfold wrX; split
    · rename_i e; have := hd e; omega
    · omega
  · unfold wrX; split
    · rename_i e; have := hd e; omega
    · omega
  · unfold rdX at hx
    simp only [List.mem_append] at hx
    rcases hx with (hx | hx) | hx
    · split at hx
      · rename_i e; rw [List.mem_singleton] at hx; rw [hx]; exact ha e
      · cases hx
    · split at hx
      · rename_i e; rw [List.mem_singleton] at hx; rw [hx]; exact hbb e
      · cases hx
    · split at hx
      · rename_i e
        rw [List.mem_singleton] at hx
        have h17 : 17 ≤ o.k ∧ o.k ≤ 20 := by unfold dvB at e; simpa using e
        have := hd (by unfold rD; rw [if_pos (by omega)])
        rw [hx]; omega
      · cases hx
end Go.Proofs.YtflagpkmebdckaaGreatDoor
/-
  Package ir: Eval.
-/
namespace Go.Proofs.YtflagpkmebdckaaGreatDoor
open Go.RowKit Go.Maps
open Num
set_option linter.unusedVariables false
section
variable {w : World} {stb sb bp bw bh N : Nat} {m : Nat → Int} {wt ht : Int → Bool}
set_option maxRecDepth 100000 in
set_option maxHeartbeats 16000000 in
theorem ieval_ok (pe : Nat → Addr) (E : Eg pe w) (R : RamIs w sb bp bw bh N m wt ht) (hN : N ≤ 900000) {S : St} (ok : S.ok) (hS : StRow w stb S) (n1 : sb ≠ stb) (n2 : bp ≠ stb) (n3 : bw ≠ stb) (n4 : bh ≠ stb) (z1 : sb < w.heap.size) (z2 : bp < w.heap.size) (z3 : bw < w.heap.size) (z4 : bh < w.heap.size) {v : Value} {l : List Opx} (A : OpsIn w v l) (pc many : Int) (p0 : 0 ≤ pc) (p1 : pc < 4294967296) (m0 : -9223372036854775808 ≤ many) (m1 : many ≤ 9223372036854775807) (hf : codeF many l = (0, -1)) (hsl : S.sl = false) (hpc : S.pc = pc) (hnx : S.nx = lo (pc + 4)) (c0 : 0 ≤ S.ct) (c1 : S.ct ≤ 1152921504606846976) :
    Calls Tryz.prog 31 #[.agg #[.int .u32 pc, .int .i64 many, v], .pointer (some ⟨stb, 0, none⟩), .pointer (some ⟨sb, 0, none⟩)] w fun e w' => HPost w stb sb bp bw bh wt ht S many (run1 wt l (begX S) m) e w' := by
  have WL := codeF_well.1 hf
  have HOK : Hid (∀ o ∈ l, o.ok ∧ opE o many = 0) := fun o ho => ⟨A.ok o ho, wellL_mem WL.ops o ho⟩
  obtain ⟨ra, rc, hv, hcap, hh⟩ := A.sh
  subst hv
  have B0 : Below w.heap.size w ((w.alloc (.cells #[.int .u32 pc, .int .i64 many, .slice ra l.length rc] 54)).alloc (.cells #[.bool false, .int .i64 0] 84)) := ((Below.refl _ _).alloc (Nat.le_refl _) _).alloc (by simp) _
  have k0 : ((w.alloc (.cells #[.int .u32 pc, .int .i64 many, .slice ra l.length rc] 54)).alloc (.cells #[.bool false, .int .i64 0] 84)).cell? ⟨w.heap.size, 0, none⟩ = some (.int .u32 pc) := by simp
  have k1 : ((w.alloc (.cells #[.int .u32 pc, .int .i64 many, .slice ra l.length rc] 54)).alloc (.cells #[.bool false, .int .i64 0] 84)).cell? ⟨w.heap.size, 1, none⟩ = some (.int .i64 many) := by simp
  have k2 : ((w.alloc (.cells #[.int .u32 pc, .int .i64 many, .slice ra l.length rc] 54)).alloc (.cells #[.bool false, .int .i64 0] 84)).cell? ⟨w.heap.size, 2, none⟩ = some (.slice ra l.length rc) := by simp
  have e0 : ((w.alloc (.cells #[.int .u32 pc, .int .i64 many, .slice ra l.length rc] 54)).alloc (.cells #[.bool false, .int .i64 0] 84)).cell? ⟨w.heap.size + 1, 0, none⟩ = some (.bool false) := by simp
  have e1 : ((w.alloc (.cells #[.int .u32 pc, .int .i64 many, .slice ra l.length rc] 54)).alloc (.cells #[.bool false, .int .i64 0] 84)).cell? ⟨w.heap.size + 1, 1, none⟩ = some (.int .i64 0) := by simp
  have ef : ∀ j, ((w.alloc (.cells #[.int .u32 pc, .int .i64 many, .slice ra l.length rc] 54)).alloc (.cells #[.bool false, .int .i64 0] 84)).frozen? ⟨w.heap.size + 1, j, none⟩ = false := fun j => by
    rw [show w.heap.size + 1 = (w.alloc (.cells #[.int .u32 pc, .int .i64 many, .slice ra l.length rc] 54)).heap.size by simp]; exact World.frozen?_alloc_at _ _ _ _ rfl
  have hsz0 : ((w.alloc (.cells #[.int .u32 pc, .int .i64 many, .slice ra l.length rc] 54)).alloc (.cells #[.bool false, .int .i64 0] 84)).heap.size = w.heap.size + 2 := by simp
  have hlen := WL.len
  have hck := ccheck_ok pe (E.stays B0) (A.stays B0) (by omega) pc many m0 m1 hf
  have HE : Hid (∀ W, Below w.heap.size w W → Eg pe W) := fun W hW => E.stays hW
  have HR : Hid (∀ W, Below w.heap.size w W → RamIs W sb bp bw bh N m wt ht) := fun W hW => R.stays hW (Nat.le_refl _)
  have HS : Hid (∀ W, Below w.heap.size w W → StRow W stb S) := fun W hW => hS.stays hW
  have HH : Hid (0 < l.length → ∃ b off : Nat, ra = some ⟨b, off, none⟩ ∧ ∀ (i : Nat) (o : Opx), l[i]? = some o → ∀ (j : Nat) (u : Value), (opC o)[j]? = some u → w.cell? ⟨b, off + i * 6 + j, none⟩ = some u) := hh
  have HXB : Hid (∀ j, u32 (begX S j)) := begX_u ok
  have hstl := hS.lt
  have hmbd := R.mb
  have HMB : Hid (∀ i, 0 ≤ m i ∧ m i < 4294967296) := hmbd
  have hB00 : Hid (Below w.heap.size w ((w.alloc (.cells #[.int .u32 pc, .int .i64 many, .slice ra l.length rc] 54)).alloc (.cells #[.bool false, .int .i64 0] 84))) := B0
  have HBG : Hid (S.sl = false ∧ S.pc = pc ∧ S.nx = lo (pc + 4)) := ⟨hsl, hpc, hnx⟩
  have m0' := WL.m0
  have m1' := WL.m1
  obtain ⟨Z, hZ⟩ : ∃ Z, run1 wt l (begX S) m = Z := ⟨_, rfl⟩
  have HZ : Hid (run1 wt l (begX S) m = Z) := hZ
  rw [hZ]
  clear hZ hf WL E R hS A hsl hpc hnx hh ok B0 hmbd hcap
  go_enter Tryz.func31, Tryz.ntmps31
  go_upto_region 3 with fail
  generalize ((w.alloc (.cells #[.int .u32 pc, .int .i64 many, .slice ra l.length rc] 54)).alloc (.cells #[.bool false, .int .i64 0] 84)) = V at *
  go_wp2_with fail
  refine hck.mono ?_
  rintro e w1 ⟨rfl, hb1⟩
  have hBw1 : Hid (Below w.heap.size w w1) := hB00.out.trans (hb1.mono (by omega))
  have q0 := (hb1.cell (p := ⟨w.heap.size, 0, none⟩) (show w.heap.size < V.heap.size by omega)).trans k0
  have q1 := (hb1.cell (p := ⟨w.heap.size, 1, none⟩) (show w.heap.size < V.heap.size by omega)).trans k1
  have q2 := (hb1.cell (p := ⟨w.heap.size, 2, none⟩) (show w.heap.size < V.heap.size by omega)).trans k2
  have qe0 := (hb1.cell (p := ⟨w.heap.size + 1, 0, none⟩) (show w.heap.size + 1 < V.heap.size by omega)).trans e0
  have qe1 := (hb1.cell (p := ⟨w.heap.size + 1, 1, none⟩) (show w.heap.size + 1 < V.heap.size by omega)).trans e1
  have qef : ∀ j, w1.frozen? ⟨w.heap.size + 1, j, none⟩ = false := fun j => (hb1.frozen (p := ⟨w.heap.size + 1, j, none⟩) (show w.heap.size + 1 < V.heap.size by omega)).trans (ef j)
  have hsz1 : w.heap.size + 2 ≤ w1.heap.size := by have := hb1.size; omega
  clear hck hb1 k0 k1 k2 e0 e1 ef hsz0 hB00
  have hbg := begin_ok (sb := sb) (HS.out w1 hBw1.out) pc p0 p1 HBG.out.1 HBG.out.2.1 HBG.out.2.2
  have hw0 : w.heap.size < w1.heap.size := by omega
  go_wp2_with fail
  refine hbg.mono ?_
  rintro e w2 ⟨mb, rfl, hmb, hGR, hb2⟩
  generalize hbase : w1.heap.size = base at *
  have hBB : Hid (Below base w1 w2) := hb2
  have HG2 : Hid (GAt w2 base mb stb sb (begX S) [] (.slice none 0 0)) := hGR.gat hmb HXB.out (by have := hb2.size; omega)
  have HCX : Hid (∀ W, Below base w1 W → Below w.heap.size w W) := fun W hW => hBw1.out.trans (hW.mono (by omega))
  have HC : Hid (∀ W, Below base w1 W → W.cell? ⟨w.heap.size, 1, none⟩ = some (.int .i64 many) ∧ W.cell? ⟨w.heap.size, 2, none⟩ = some (.slice ra l.length rc) ∧ W.cell? ⟨w.heap.size + 1, 0, none⟩ = some (.bool false) ∧ W.cell? ⟨w.heap.size + 1, 1, none⟩ = some (.int .i64 0) ∧ (∀ j, W.frozen? ⟨w.heap.size + 1, j, none⟩ = false) ∧ base ≤ W.heap.size) := fun W hW => ⟨(hW.cell (p := ⟨w.heap.size, 1, none⟩) hw0).trans q1, (hW.cell (p := ⟨w.heap.size, 2, none⟩) hw0).trans q2, (hW.cell (p := ⟨w.heap.size + 1, 0, none⟩) (show w.heap.size + 1 < base by omega)).trans qe0, (hW.cell (p := ⟨w.heap.size + 1, 1, none⟩) (show w.heap.size + 1 < base by omega)).trans qe1, fun j => (hW.frozen (p := ⟨w.heap.size + 1, j, none⟩) (show w.heap.size + 1 < base by omega)).trans (qef j), by have := hW.size; omega⟩
  clear hbg hGR hb2 q0 q1 q2 qe0 qe1 qef
  obtain ⟨d1, d2, d3, d4, d5, d6⟩ := HC.out w2 hBB.out
  have d7 := World.block_lt_of_cell? _ _ d2
  go_wp2
  clear d1 d2 d3 d4 d5 d6 d7
  go_loopw [46] (fun i wr => ∃ (j : Nat) (x m' : Nat → Int) (pj : List Pq) (vj : Value), j ≤ l.length ∧ i = .int .i64 j ∧ Hid (vw m (pqs pj) = m' ∧ pj.length ≤ j ∧ (∀ q ∈ pqs pj, wt (q.a / 256) = false)) ∧ Hid (run1 wt (l.drop j) x m' = Z) ∧ GAt wr base mb stb sb x pj vj ∧ Below base w1 wr) (fun i _ => l.length - (intOf i).toNat)
  case atStart => exact ⟨0, begX S, m, [], .slice none 0 0, Nat.zero_le _, rfl, ⟨rfl, by simp, by intro q hq; cases hq⟩, HZ.out, HG2.out, hBB.out⟩
  case round =>
    obtain ⟨j, x, m', pj, vj, hj, rfl, HP, HZJ, hG, hB⟩ := hrel
    have HGJ : Hid (GAt wr base mb stb sb x pj vj) := hG
    have HBJ : Hid (Below base w1 wr) := hB
    obtain ⟨d1, d2, d3, d4, d5, d6⟩ := HC.out wr hB
    have d7 := World.block_lt_of_cell? _ _ d2
    have d8 := World.block_lt_of_cell? _ _ d3
    clear hG hB HG2 hBB
    by_cases hlt : j < l.length
    · obtain ⟨o, ho⟩ : ∃ q, l[j]? = some q := ⟨_, List.getElem?_eq_getElem hlt⟩
      have hom := List.mem_of_getElem? ho
      obtain ⟨hok, hop⟩ := HOK.out o hom
      obtain ⟨b, off, rfl, hcell⟩ := HH.out (by omega)
      obtain ⟨x0, x1, x2, x3, x4, x5⟩ := op_cells (w := wr) (fun k u hk => by rw [(HCX.out wr HBJ.out).cell (World.block_lt_of_cell? _ _ (hcell j o ho k u hk))]; exact hcell j o ho k u hk)
      have zb := World.block_lt_of_cell? _ _ x0
      have hlt' : (j : Int) < l.length := by omega
      have HDR : Hid (l.drop j = o :: l.drop (j + 1)) := by
        show _ = _
        rw [List.drop_eq_getElem_cons hlt]
        have := (List.getElem?_eq_some_iff.1 ho).2
        rw [this]
      have hpl : pj.length ≤ 1000 := by have := HP.out.2.1; omega
      have hB1 : Hid (Below wr.heap.size wr (wr.alloc (.cells #[.string o.s, .int .i64 o.d, .int .i64 o.a, .int .i64 o.b, .int .u32 o.i, .int .i64 o.t] 139))) := (Below.refl _ _).alloc (Nat.le_refl _) _
      have hBA : Below base w1 (wr.alloc (.cells #[.string o.s, .int .i64 o.d, .int .i64 o.a, .int .i64 o.b, .int .u32 o.i, .int .i64 o.t] 139)) := HBJ.out.trans (hB1.out.mono d6)
      have hrd := read_any pe (HE.out _ (HCX.out _ hBA)) (HR.out _ (HCX.out _ hBA)) (HGJ.out.opened (.cells #[.string o.s, .int .i64 o.d, .int .i64 o.a, .int .i64 o.b, .int .u32 o.i, .int .i64 o.t] 139)) hpl o hok many hop
      rw [HP.out.1] at hrd
      have c5 : (wr.alloc (.cells #[.string o.s, .int .i64 o.d, .int .i64 o.a, .int .i64 o.b, .int .u32 o.i, .int .i64 o.t] 139)).cell? ⟨wr.heap.size, 5, none⟩ = some (.int .i64 o.t) := by simp
      have c0' : (wr.alloc (.cells #[.string o.s, .int .i64 o.d, .int .i64 o.a, .int .i64 o.b, .int .u32 o.i, .int .i64 o.t] 139)).cell? ⟨wr.heap.size, 0, none⟩ = some (.string o.s) := by simp
      have c1' : (wr.alloc (.cells #[.string o.s, .int .i64 o.d, .int .i64 o.a, .int .i64 o.b, .int .u32 o.i, .int .i64 o.t] 139)).cell? ⟨wr.heap.size, 1, none⟩ = some (.int .i64 o.d) := by simp
      have c2 : (wr.alloc (.cells #[.string o.s, .int .i64 o.d, .int .i64 o.a, .int .i64 o.b, .int .u32 o.i, .int .i64 o.t] 139)).cell? ⟨wr.heap.size, 2, none⟩ = some (.int .i64 o.a) := by simp
      have c3 : (wr.alloc (.cells #[.string o.s, .int .i64 o.d, .int .i64 o.a, .int .i64 o.b, .int .u32 o.i, .int .i64 o.t] 139)).cell? ⟨wr.heap.size, 3, none⟩ = some (.int .i64 o.b) := by simp
      have c4 : (wr.alloc (.cells #[.string o.s, .int .i64 o.d, .int .i64 o.a, .int .i64 o.b, .int .u32 o.i, .int .i64 o.t] 139)).cell? ⟨wr.heap.size, 4, none⟩ = some (.int .u32 o.i) := by simp
      have HRC : Hid (run1 wt (o :: l.drop (j + 1)) x m' = if (resZ wt x m' o).trap = true then .trap o.t else if (appZ ⟨x, m', -1⟩ o (resZ wt x m' o)).lv < 0 then run1 wt (l.drop (j + 1)) (appZ ⟨x, m', -1⟩ o (resZ wt x m' o)).x (appZ ⟨x, m', -1⟩ o (resZ wt x m' o)).m else .leave (appZ ⟨x, m', -1⟩ o (resZ wt x m' o))) := run1_cons wt o _ x m'
      have hmb' : ∀ i, 0 ≤ m' i ∧ m' i < 4294967296 := by rw [← HP.out.1]; exact vw_bd HMB.out (pqs pj) (pq_ok pj)
      have HEO : Hid ((resZ wt x m' o).trap = false → EfOk wt o (resZ wt x m' o) (efO o (resZ wt x m' o))) := fun ht => efOk hop hok (fun i _ => HGJ.out.xb i) hmb' ht
      have HAB : Hid (u32 (resZ wt x m' o).a) := (resZ_bd (wt := wt) hok hop (fun i _ => HGJ.out.xb i) hmb').2
      unfold opV at hrd
      generalize resZ wt x m' o = ro at *
      clear hcell ho hom hok hop hmb' hBA HOK HH
      go_upto_region 12 with fail
      generalize hWW : wr.alloc (.cells #[.string o.s, .int .i64 o.d, .int .i64 o.a, .int .i64 o.b, .int .u32 o.i, .int .i64 o.t] 139) = W1 at *
      have hsz1' : W1.heap.size = wr.heap.size + 1 := by rw [← hWW, World.size_alloc]
      clear hWW x0 x1 x2 x3 x4 x5 d1 d2 d7 zb
      go_wp2_with fail
      refine hrd.mono ?_
      rintro e w3 ⟨⟨E, rfl, hE⟩, hb3⟩
      have hBw3 : Hid (Below wr.heap.size wr w3) := hB1.out.trans (hb3.mono (by omega))
      have k5 : w3.cell? ⟨wr.heap.size, 5, none⟩ = some (.int .i64 o.t) := (hb3.cell (p := ⟨wr.heap.size, 5, none⟩) (show wr.heap.size < W1.heap.size by omega)).trans c5
      have hsz3 : wr.heap.size < w3.heap.size := by have := hb3.size; omega
      unfold efA
      have hB3 : Hid (Below wr.heap.size wr (w3.alloc (.cells #[.int .i64 E.r, .int .u32 E.v, .int .u32 E.a, .int .i64 E.s, .int .u32 E.sv, .bool E.lv, .int .u32 E.to] 160))) := hBw3.out.alloc (by omega) _
      have hBB3 : Hid (Below base w1 (w3.alloc (.cells #[.int .i64 E.r, .int .u32 E.v, .int .u32 E.a, .int .i64 E.s, .int .u32 E.sv, .bool E.lv, .int .u32 E.to] 160))) := HBJ.out.trans (hB3.out.mono d6)
      have j5 : (w3.alloc (.cells #[.int .i64 E.r, .int .u32 E.v, .int .u32 E.a, .int .i64 E.s, .int .u32 E.sv, .bool E.lv, .int .u32 E.to] 160)).cell? ⟨wr.heap.size, 5, none⟩ = some (.int .i64 o.t) := (World.grownBy_alloc w3 _ none).cell k5 (by simp)
      have f0 : (w3.alloc (.cells #[.int .i64 E.r, .int .u32 E.v, .int .u32 E.a, .int .i64 E.s, .int .u32 E.sv, .bool E.lv, .int .u32 E.to] 160)).cell? ⟨w3.heap.size, 0, none⟩ = some (.int .i64 E.r) := by simp
      have f1 : (w3.alloc (.cells #[.int .i64 E.r, .int .u32 E.v, .int .u32 E.a, .int .i64 E.s, .int .u32 E.sv, .bool E.lv, .int .u32 E.to] 160)).cell? ⟨w3.heap.size, 1, none⟩ = some (.int .u32 E.v) := by simp
      have f2 : (w3.alloc (.cells #[.int .i64 E.r, .int .u32 E.v, .int .u32 E.a, .int .i64 E.s, .int .u32 E.sv, .bool E.lv, .int .u32 E.to] 160)).cell? ⟨w3.heap.size, 2, none⟩ = some (.int .u32 E.a) := by simp
      have f3 : (w3.alloc (.cells #[.int .i64 E.r, .int .u32 E.v, .int .u32 E.a, .int .i64 E.s, .int .u32 E.sv, .bool E.lv, .int .u32 E.to] 160)).cell? ⟨w3.heap.size, 3, none⟩ = some (.int .i64 E.s) := by simp
      have f4 : (w3.alloc (.cells #[.int .i64 E.r, .int .u32 E.v, .int .u32 E.a, .int .i64 E.s, .int .u32 E.sv, .bool E.lv, .int .u32 E.to] 160)).cell? ⟨w3.heap.size, 4, none⟩ = some (.int .u32 E.sv) := by simp
      have f5 : (w3.alloc (.cells #[.int .i64 E.r, .int .u32 E.v, .int .u32 E.a, .int .i64 E.s, .int .u32 E.sv, .bool E.lv, .int .u32 E.to] 160)).cell? ⟨w3.heap.size, 5, none⟩ = some (.bool E.lv) := by simp
      have f6 : (w3.alloc (.cells #[.int .i64 E.r, .int .u32 E.v, .int .u32 E.a, .int .i64 E.s, .int .u32 E.sv, .bool E.lv, .int .u32 E.to] 160)).cell? ⟨w3.heap.size, 6, none⟩ = some (.int .u32 E.to) := by simp
      have HG3 : Hid (GAt (w3.alloc (.cells #[.int .i64 E.r, .int .u32 E.v, .int .u32 E.a, .int .i64 E.s, .int .u32 E.sv, .bool E.lv, .int .u32 E.to] 160)) base mb stb sb x pj vj) := HGJ.out.stays hB3.out
      clear hrd hb3 c0' c1' c2 c3 c4 c5 hB1 hsz1' d3 d4 d5 d8 k5
      cases htr : ro.trap with
      | true =>
        have HZT : Hid (Z = .trap o.t) := by show _ = _; rw [← HZJ.out, HDR.out, HRC.out, if_pos htr]
        clear f0 f1 f2 f3 f4 f5 f6 hE HRC HEO HAB
        go_upto_region 14 with fail
        generalize w3.alloc (.cells #[.int .i64 E.r, .int .u32 E.v, .int .u32 E.a, .int .i64 E.s, .int .u32 E.sv, .bool E.lv, .int .u32 E.to] 160) = A at *
        obtain ⟨d1, d2, d3, d4, d5, d6⟩ := HC.out A hBB3.out
        have d7 := World.block_lt_of_cell? _ _ d3
        have zg := World.block_lt_of_cell? _ _ j5
        go_wp2
        obtain ⟨j0, j1⟩ := end_putG d3 d4 (.bool true) (.int .i64 o.t)
        refine bodyPost_ret (results_cell1G (A := ⟨w.heap.size + 1, 0, none⟩) rfl _ _ _ rfl (end_loadG j0 j1)) rfl ?_
        rw [HZT.out]
        exact ⟨rfl, ((HCX.out A hBB3.out).setCell (p := ⟨w.heap.size + 1, 0, none⟩) (by show w.heap.size ≤ w.heap.size + 1; omega) _).setCell (p := ⟨w.heap.size + 1, 1, none⟩) (by show w.heap.size ≤ w.heap.size + 1; omega) _⟩
      | false =>
        have hEE := hE htr
        have hEo := HEO.out htr
        rw [← hEE] at hEo
        have HEH : Hid (EfOk wt o ro E) := hEo
        have HWR : Hid (Z = if (appZ ⟨x, m', -1⟩ o ro).lv < 0 then run1 wt (l.drop (j + 1)) (appZ ⟨x, m', -1⟩ o ro).x (appZ ⟨x, m', -1⟩ o ro).m else .leave (appZ ⟨x, m', -1⟩ o ro)) := by show _ = _; rw [← HZJ.out, HDR.out, HRC.out, if_neg (by rw [htr]; decide)]
        have hdo := do_any HG3.out (by have := HP.out.2.1; omega) E hEo.r0 hEo.r1 hEo.v hEo.s
        unfold efA at hdo
        clear hE hEE hEo HRC HEO j5
        go_upto_region 15 with fail
        have zf := World.block_lt_of_cell? _ _ f0
        have hsA : base ≤ (w3.alloc (.cells #[.int .i64 E.r, .int .u32 E.v, .int .u32 E.a, .int .i64 E.s, .int .u32 E.sv, .bool E.lv, .int .u32 E.to] 160)).heap.size := (HC.out _ hBB3.out).2.2.2.2.2
        generalize w3.alloc (.cells #[.int .i64 E.r, .int .u32 E.v, .int .u32 E.a, .int .i64 E.s, .int .u32 E.sv, .bool E.lv, .int .u32 E.to] 160) = A at *
        go_wp2_with fail
        refine hdo.mono ?_
        rintro e w4 ⟨rfl, p4, v4, hpq, hpl4, hG4, hM4, hK4⟩
        have hBB4 : Hid (Below base w1 w4) := Kx.belowB hBB3.out hK4 HG3.out.lb (fun i hi => (HG3.out.blk i hi).2) (by omega)
        have HG4 : Hid (GAt w4 base mb stb sb (appZ ⟨x, m', -1⟩ o ro).x p4 v4) := by
          have := HEH.out.x x m' (-1)
          rw [← this]; exact hG4
        have HP4 : Hid (vw m (pqs p4) = (appZ ⟨x, m', -1⟩ o ro).m ∧ p4.length ≤ j + 1 ∧ (∀ q ∈ pqs p4, wt (q.a / 256) = false)) := by
          obtain ⟨a1, a2, a3⟩ := HP.out
          refine ⟨?_, by omega, fun q hq => ?_⟩
          · rw [hpq, HEH.out.m m (pqs pj) x (-1), a1]
          · rw [hpq] at hq
            unfold doP at hq
            split at hq
            · exact a3 q hq
            · rename_i hs
              rcases List.mem_append.1 hq with h | h
              · exact a3 q h
              · rw [List.mem_singleton.1 h]; exact HEH.out.w hs
        have HLV : Hid ((appZ ⟨x, m', -1⟩ o ro).lv = if ro.leave = true then ro.a else -1) := rfl
        clear hdo hK4 hG4 hM4 f0 f1 f2 f3 f4 f5 f6 hpq hpl4 zf hsA
        generalize appZ ⟨x, m', -1⟩ o ro = Zr at *
        obtain ⟨d1, d2, d3, d4, d5, d6⟩ := HC.out w4 hBB4.out
        have d7 := World.block_lt_of_cell? _ _ d2
        have d8 := World.block_lt_of_cell? _ _ d3
        cases hlv : ro.leave with
        | false =>
          have e1 : E.lv = false := HEH.out.lv.trans hlv
          have HL2 : Hid (Zr.lv = -1) := by show _ = _; rw [HLV.out, hlv]; rfl
          have HZN : Hid (run1 wt (l.drop (j + 1)) Zr.x Zr.m = Z) := by show _ = _; rw [HWR.out, if_pos (by rw [HL2.out]; decide)]
          rw [e1]
          clear e1 HLV HWR HAB HEH
          go_wp2
          go_roundw
          case rel => exact ⟨j + 1, Zr.x, Zr.m, p4, v4, by omega, by go_num, HP4.out, HZN.out, HG4.out, hBB4.out⟩
          case measure => simp [intOf]; omega
        | true =>
          have e1 : E.lv = true := HEH.out.lv.trans hlv
          have e2 : E.to = ro.a := HEH.out.to hlv
          have HL2 : Hid (Zr.lv = ro.a) := by show _ = _; rw [HLV.out, hlv]; rfl
          have hlu : u32 ro.a := HAB.out
          have HZN : Hid (Z = .leave Zr) := by show _ = _; rw [HWR.out, if_neg (by rw [HL2.out]; have := hlu.1; omega)]
          rw [e1, e2]
          clear e1 e2 HLV HWR HAB HEH
          have hle := leave_any (N := N) (HR.out w4 (HCX.out w4 hBB4.out)) HG4.out (HS.out w4 (HCX.out w4 hBB4.out)) (by have := HP4.out.2.1; omega) (by omega) (by omega) (by omega) (by omega) n1 n2 n3 n4 HP4.out.2.2 ro.a many hlu.1 hlu.2 c0 c1 m0' m1'
          rw [HP4.out.1] at hle
          go_wp2_with fail
          refine hle.mono ?_
          rintro e w5 ⟨rfl, hS5, hR5, hs5, hf5, ho5⟩
          have hne : w.heap.size + 1 ≠ stb ∧ w.heap.size + 1 ≠ bp ∧ w.heap.size + 1 ≠ bh := by omega
          have hbk := hf5 (w.heap.size + 1) d8 hne.1 hne.2.1 hne.2.2
          have r0 := (World.cell?_of_block (a := ⟨w.heap.size + 1, 0, none⟩) hbk).trans d3
          have r1 := (World.cell?_of_block (a := ⟨w.heap.size + 1, 1, none⟩) hbk).trans d4
          have rf : ∀ k, w5.frozen? ⟨w.heap.size + 1, k, none⟩ = false := fun k => (World.frozen?_of_block (a := ⟨w.heap.size + 1, k, none⟩) hbk).trans (d5 k)
          have r8 := World.block_lt_of_cell? _ _ r0
          have HS5 : Hid (StRow w5 stb (leftS S Zr.x Zr.lv many)) := by rw [HL2.out]; exact hS5
          have HR5 : Hid (RamIs w5 sb bp bw bh (N + 2 * p4.length) Zr.m wt ht) := hR5
          have HF5 : Hid (∀ k, k < w.heap.size → k ≠ stb → k ≠ bp → k ≠ bh → w5.heap[k]? = w.heap[k]?) := fun k hk k1 k2 k3 => (hf5 k (by omega) k1 k2 k3).trans ((HCX.out w4 hBB4.out).block k hk)
          have HO5 : Hid (w5.os = w.os ∧ w5.tape = w.tape ∧ w5.output = w.output) := ⟨ho5.1.trans (HCX.out w4 hBB4.out).os, ho5.2.1.trans (HCX.out w4 hBB4.out).tape, ho5.2.2.trans (HCX.out w4 hBB4.out).output⟩
          clear hle hS5 hR5 hf5 ho5 hbk d1 d2 d3 d4 d5 d7 d8
          go_wp2
          obtain ⟨j0, j1⟩ := end_putG r0 r1 (.bool false) (.int .i64 0)
          have hoth : ∀ k, k ≠ w.heap.size + 1 → ((w5.setCell ⟨w.heap.size + 1, 0, none⟩ (.bool false)).setCell ⟨w.heap.size + 1, 1, none⟩ (.int .i64 0)).heap[k]? = w5.heap[k]? := fun k hk => (Below.heap_setCell _ ⟨w.heap.size + 1, 1, none⟩ _ k hk).trans (Below.heap_setCell _ ⟨w.heap.size + 1, 0, none⟩ _ k hk)
          refine bodyPost_ret (results_cell1G (A := ⟨w.heap.size + 1, 0, none⟩) rfl _ _ _ rfl (end_loadG j0 j1)) rfl ?_
          rw [HZN.out]
          exact ⟨rfl, HS5.out.block (hoth stb (by omega)), ⟨_, by have := HP4.out.2.1; omega, HR5.out.turn1 (w.heap.size + 1) (by omega) (by omega) (by omega) (by omega) hoth⟩, by simp; omega, fun k hk k1 k2 k3 => (hoth k (by omega)).trans (HF5.out k hk k1 k2 k3), HO5.out⟩
    · obtain rfl : j = l.length := by omega
      have HZN : Hid (Z = .fell) := by show _ = _; rw [← HZJ.out, List.drop_length]; rfl
      go_wp2
      obtain ⟨j0, j1⟩ := end_putG d3 d4 (.bool true) (.int .i64 0)
      refine bodyPost_ret (results_cell1G (A := ⟨w.heap.size + 1, 0, none⟩) rfl _ _ _ rfl (end_loadG j0 j1)) rfl ?_
      rw [HZN.out]
      exact ⟨rfl, ((HCX.out wr HBJ.out).setCell (p := ⟨w.heap.size + 1, 0, none⟩) (by show w.heap.size ≤ w.heap.size + 1; omega) _).setCell (p := ⟨w.heap.size + 1, 1, none⟩) (by show w.heap.size ≤ w.heap.size + 1; omega) _⟩
end
end Go.Proofs.YtflagpkmebdckaaGreatDoor
/-
  Errors of host.Run; coded.
-/
namespace Go.Proofs.YtflagpkmebdckaaGreatDoor
open Go.RowKit Go.Maps
open Num
set_option linter.unusedVariables false
section
variable {w : World}
end
end Go.Proofs.YtflagpkmebdckaaGreatDoor
/-
  A plan's run as the document has it.
-/
namespace Go.Proofs.YtflagpkmebdckaaGreatDoor
open Go.RowKit Go.Maps
open Num
set_option linter.unusedVariables false
def ozA : Oz → Int
  | .trap t => t
  | _ => 0
theorem rowZ_x0 {wt : Int → Bool} {x m : Nat → Int} {many : Int} : ∀ (row : List Opx) (M : Mz), (∀ o ∈ row, opE o many = 0) → (row.foldl (fun M o => appZ M o (resZ wt x m o)) M).x 0 = M.x 0
  | [], M, _ => rfl
  | o :: row, M, h => by
    have e := rowZ_x0 (wt := wt) (x := x) (m := m) row (appZ M o (resZ wt x m o)) (fun q hq => h q (by simp [hq]))
    show (row.foldl (fun M o => appZ M o (resZ wt x m o)) (appZ M o (resZ wt x m o))).x 0 = M.x 0
    rw [e]
    show (if 0 < wrX o then setX M.x (wrX o) (resZ wt x m o).v else M.x) 0 = M.x 0
    split
    · rename_i hw
      unfold setX
      rw [if_neg (by omega)]
    · rfl
theorem runZ_x0 {wt : Int → Bool} {many : Int} : ∀ (rs : List (List Opx)) (x m : Nat → Int) (M : Mz), (∀ r ∈ rs, ∀ o ∈ r, opE o many = 0) → runZ wt rs x m = .leave M → M.x 0 = x 0
  | [], x, m, M, _, h => by cases h
  | r :: rs, x, m, M, hw, h => by
    rw [runZ_cons] at h
    cases ht : trapZ wt x m r with
    | some t => rw [ht] at h; cases h
    | none =>
      rw [ht] at h
      simp only at h
      have hx := rowZ_x0 (wt := wt) (x := x) (m := m) r ⟨x, m, -1⟩ (hw r (by simp))
      by_cases hlv : (rowZ wt x m r).lv < 0
      · rw [if_pos hlv] at h
        have := runZ_x0 rs _ _ M (fun q hq => hw q (by simp [hq])) h
        rw [this]; exact hx
      · rw [if_neg hlv] at h
        injection h with h
        rw [← h]; exact hx
theorem begX_nw {T : St} (h0 : T.r 0 = 0) : begX T = nwX (rgS T) 34 := by
  funext j
  unfold begX nwX rgS
  by_cases e0 : j = 0
  · subst e0; rw [if_pos (by omega), if_neg (by omega)]; exact h0
  · by_cases h : j < 34
    · rw [if_pos (show 1 ≤ j ∧ j < 34 by omega)]
      by_cases h2 : j < 32
      · rw [if_pos h2, if_pos h2]
      · rw [if_neg h2, if_neg h2]
        by_cases h3 : j = 32
        · rw [if_pos h3, if_pos h3]
        · rw [if_neg h3, if_neg h3, if_pos (by omega)]
    · rw [if_neg (show ¬ (1 ≤ j ∧ j < 34) by omega), if_neg (by omega), if_neg (by omega), if_neg (by omega)]
theorem left_same {S : St} {M : Mz} {many : Int} (h : M.x 0 = S.r 0) : ∀ j, j < 43 → stV (leftS S M.x M.lv many) j = stV (lfS S M many) j := by
  intro j hj
  by_cases h32 : j < 32
  · unfold stV leftS lfS
    rw [if_pos h32, if_pos h32]
    show Value.int .u32 (M.x j) = Value.int .u32 (if 1 ≤ j then M.x j else S.r j)
    by_cases e : 1 ≤ j
    · rw [if_pos e]
    · rw [if_neg e, show j = 0 by omega, h]
  · have hc : j = 32 ∨ j = 33 ∨ j = 34 ∨ j = 35 ∨ j = 36 ∨ j = 37 ∨ j = 38 ∨ j = 39 ∨ j = 40 ∨ j = 41 ∨ j = 42 := by omega
    rcases hc with rfl | rfl | rfl | rfl | rfl | rfl | rfl | rfl | rfl | rfl | rfl <;> rfl
/-- what a run of the program's leaves behind -/
structure HOut (w w' : World) (stb sb bp bw bh : Nat) (wt ht : Int → Bool) (F : St) (M : Nat → Int) : Prop where
  st : StRow w' stb F
  rm : ∃ N', RamIs w' sb bp bw bh N' M wt ht
  sz : w.heap.size ≤ w'.heap.size
  bk : ∀ k, k < w.heap.size → k ≠ stb → k ≠ bp → k ≠ bh → w'.heap[k]? = w.heap[k]?
  os : w'.os = w.os
  tape : w'.tape = w.tape
  output : w'.output = w.output
theorem HOut.of_below {w w' : World} {stb sb bp bw bh N : Nat} {wt ht : Int → Bool} {F : St} {M : Nat → Int} (hS : StRow w stb F) (R : RamIs w sb bp bw bh N M wt ht) (h : Below w.heap.size w w') : HOut w w' stb sb bp bw bh wt ht F M :=
  ⟨hS.stays h, ⟨N, R.stays h (Nat.le_refl _)⟩, h.size, fun k hk _ _ _ => h.block k hk, h.os, h.tape, h.output⟩
theorem HOut.below {w w' wz : World} {stb sb bp bw bh : Nat} {wt ht : Int → Bool} {F : St} {M : Nat → Int} (R : HOut w w' stb sb bp bw bh wt ht F M) (h : Below wz.heap.size wz w) (h1 : wz.heap.size ≤ stb) (h2 : wz.heap.size ≤ bp) (h3 : wz.heap.size ≤ bh) : Below wz.heap.size wz w' :=
  ⟨R.os.trans h.os, R.tape.trans h.tape, R.output.trans h.output, Nat.le_trans h.size R.sz, fun k hk => (R.bk k (Nat.lt_of_lt_of_le hk h.size) (by omega) (by omega) (by omega)).trans (h.block k hk)⟩
theorem hrunT_any {w : World} {stb sb bp bw bh N : Nat} {m : Nat → Int} {wt ht : Int → Bool} (pe : Nat → Addr) (E : Ep pe w) (R : RamIs w sb bp bw bh N m wt ht) (hN : N ≤ 900000) {S : St} (ok : S.ok) (hS : StRow w stb S) (n1 : sb ≠ stb) (n2 : bp ≠ stb) (n3 : bw ≠ stb) (n4 : bh ≠ stb) {v : Value} {rs : List (List Opx)} (RI : RowsI w v rs) (rok : ∀ r ∈ rs, ∀ o ∈ r, o.ok) (F : Few rs) (pc many : Int) (p0 : 0 ≤ pc) (p1 : pc < 4294967296) (m0 : -9223372036854775808 ≤ many) (m1 : many ≤ 9223372036854775807) (hpf : planF many rs = (0, -1)) (hsl : S.sl = false) (hpc : S.pc = pc) (hnx : S.nx = lo (pc + 4)) (hr0 : S.r 0 = 0) (c0 : 0 ≤ S.ct) (c1 : S.ct ≤ 1152921504606846976) :
    Calls Tryz.prog 32 #[.agg #[.int .u32 pc, .int .i64 many, v], .pointer (some ⟨stb, 0, none⟩), .pointer (some ⟨sb, 0, none⟩)] w fun e w' => e = .returned (.tuple #[.agg #[.bool (ozT (runZ wt rs (nwX (rgS S) 34) m)), .int .i64 (ozA (runZ wt rs (nwX (rgS S) 34) m))], .nilIface]) ∧ ∃ G, stA G = stA (ozS S many (runZ wt rs (nwX (rgS S) 34) m)) ∧ HOut w w' stb sb bp bw bh wt ht G (ozM m (runZ wt rs (nwX (rgS S) 34) m)) := by
  have hlt := ram_ltG R
  have PK := planF_ok hpf
  have hwell : ∀ r ∈ rs, ∀ o ∈ r, o.ok ∧ opE o many = 0 := fun r hr o ho => ⟨rok r hr o ho, (PK.row r hr).2 o ho⟩
  have hnf := runZ_nofell (many := many) wt rs (nwX (rgS S) 34) m PK.ne hwell PK.last (nwX_bd (rgS_bd ok)) R.mb
  have hx0 := fun M => runZ_x0 (wt := wt) (many := many) rs (nwX (rgS S) 34) m M (fun r hr o ho => (hwell r hr o ho).2)
  refine (hrun_ok pe E R hN ok hS n1 n2 n3 n4 hlt.1 hlt.2.1 hlt.2.2.1 hlt.2.2.2 RI F pc many p0 p1 m0 m1 hpf hsl hpc hnx c0 c1).mono ?_
  intro e w' h
  rw [begX_nw hr0] at h
  cases hz : runZ wt rs (nwX (rgS S) 34) m with
  | trap t =>
    rw [hz] at h
    obtain ⟨rfl, hb⟩ := h
    exact ⟨rfl, S, rfl, HOut.of_below hS R hb⟩
  | fell => exact absurd hz hnf
  | leave M =>
    rw [hz] at h
    obtain ⟨rfl, h1, ⟨N', _, h2⟩, h3, h4, h5, h6, h7⟩ := h
    have hM : M.x 0 = S.r 0 := by rw [hx0 M hz, hr0]; unfold nwX; rw [if_neg (by omega)]
    exact ⟨rfl, leftS S M.x M.lv many, stA_congr (left_same hM), ⟨h1, ⟨N', h2⟩, h3, h4, h5, h6, h7⟩⟩
end Go.Proofs.YtflagpkmebdckaaGreatDoor
/-
  The document's isDead and DeadOf.
-/
namespace Go.Proofs.YtflagpkmebdckaaGreatDoor
open Go.RowKit Go.Maps
open Num
set_option linter.unusedVariables false
theorem BoxO.drewN {W : World} {x : Nat} {o : Opx} (B : BoxO W x o) (n : Nat) : BoxO (W.drewN n) x o := ⟨B.c0, B.c1, B.c2, B.c3, B.c4, B.c5⟩
theorem BoxO.stays {W W' : World} {x : Nat} {o : Opx} (B : BoxO W x o) (h : Below W.heap.size W W') : BoxO W' x o := B.block (h.block _ B.lt)
/-- what a slice's whole numbers are -/
def IntsC (W : World) (ao : Option Addr) (l : List Int) : Prop := 0 < l.length → ∃ g, ao = some ⟨g, 0, none⟩ ∧ ∀ (i : Nat) (x : Int), l[i]? = some x → W.cell? ⟨g, i, none⟩ = some (.int .i64 x)
theorem IntsC.drewN {W : World} {ao : Option Addr} {l : List Int} (C : IntsC W ao l) (n : Nat) : IntsC (W.drewN n) ao l := fun h => let ⟨g, e, c⟩ := C h; ⟨g, e, fun i x hx => c i x hx⟩
end Go.Proofs.YtflagpkmebdckaaGreatDoor
/-
  The document's touches.
-/
namespace Go.Proofs.YtflagpkmebdckaaGreatDoor
open Go.RowKit Go.Maps
open Num
set_option linter.unusedVariables false
end Go.Proofs.YtflagpkmebdckaaGreatDoor
/-
  What PlanEnds's walk wants of the pure side.
-/
namespace Go.Proofs.YtflagpkmebdckaaGreatDoor
open Go.RowKit Go.Maps
open Num
set_option linter.unusedVariables false
theorem plan_same {many : Int} {l : List Opx} (W : Well many l) (wt : Int → Bool) (x m : Nat → Int) : OzSame (runZ wt (eachL l) x m) (runZ wt (makeP l).rows x m) := by
  have h : goZ wt (makeP l).rows x m = goZ wt (eachL l) x m := congrFun (congrFun (make_go wt (outL_well W.ops)) x) m
  have a := runZ_goZ wt (eachL l) x m
  have b := runZ_goZ wt (makeP l).rows x m
  rw [h] at b
  cases hg : goZ wt (eachL l) x m with
  | trap =>
    obtain ⟨t, e⟩ := a.1 hg
    obtain ⟨u, e'⟩ := b.1 hg
    rw [e, e']; trivial
  | leave M => rw [a.2.1 M hg, b.2.1 M hg]; exact ⟨rfl, fun _ _ => rfl, fun _ _ _ => rfl⟩
  | on y n => rw [a.2.2 y n hg, b.2.2 y n hg]; trivial
end Go.Proofs.YtflagpkmebdckaaGreatDoor
