/-
  A bus as package bus holds it: memory, output, lamp and trace behind a struct's pointer: what they are good for, in one word.
-/
import Derived.Test.YtckcbnfobjmhpaaDoorRow
import Derived.Test.YtckcbnfobjmhpaaDoorKeepsPure
namespace Go.Proofs.YtckcbnfobjmhpaaDoor
open Go.RowKit Go.Maps
open Num
set_option linter.unusedVariables false
/-- an access -/
structure Acc where
  c : Int
  s : Bool
  a : Int
  v : Int
def accC (x : Acc) : List Value := [.int .i64 x.c, .bool x.s, .int .u32 x.a, .int .u32 x.v]
def outC (l : List Int) : List Value := l.map (Value.int .u8)
theorem outC_add (l : List Int) (x : Int) : outC l ++ [.int .u8 x] = outC (l ++ [x]) := by simp [outC]
theorem trC_add (l : List Acc) (x : Acc) : l.flatMap accC ++ accC x = (l ++ [x]).flatMap accC := by simp [List.flatMap_append]
theorem info5 : (Tryd.prog.info? 5).map (fun i => (i.zero, i.size, i.bytes)) = some (some (.int .u8 0), 1, 1) := by kernel_rfl
theorem info55 : (Tryd.prog.info? 76).map (fun i => (i.zero, i.size, i.bytes)) = some (some (.agg #[.int .i64 0, .bool false, .int .u32 0, .int .u32 0]), 4, 24) := by kernel_rfl
/-- block bb is a Bus: its memory, what was put out, the lamp, the trace -/
structure BusIs (w : World) (base bb sb bp bw bh N : Nat) (m : Nat → Int) (wt ht : Int → Bool) (out : List Int) (lamp : Int) (tr : List Acc) (vo vt : Value) : Prop where
  c0 : w.cell? ⟨bb, 0, none⟩ = some (.pointer (some ⟨sb, 0, none⟩))
  c1 : w.cell? ⟨bb, 1, none⟩ = some vo
  c2 : w.cell? ⟨bb, 2, none⟩ = some (.int .u32 lamp)
  c3 : w.cell? ⟨bb, 3, none⟩ = some vt
  fz : ∀ j, w.frozen? ⟨bb, j, none⟩ = false
  ro : w.ownsRow base 5 1 vo out.length (outC out)
  rt : w.ownsRow base 76 4 vt tr.length (tr.flatMap accC)
  R : RamIs w sb bp bw bh N m wt ht
  lb : bb < base
  ls : sb < base
  lp : bp < base
  lw : bw < base
  lh : bh < base
  ns : bb ≠ sb
  np : bb ≠ bp
  nw : bb ≠ bw
  nh : bb ≠ bh
  bs : base ≤ w.heap.size
/-- w' is w but for these blocks, and new ones -/
structure BTurned (w w' : World) (bb bp bh : Nat) (vo vt : Value) : Prop where
  os : w'.os = w.os
  tape : w'.tape = w.tape
  output : w'.output = w.output
  size : w.heap.size ≤ w'.heap.size
  block : ∀ k, k < w.heap.size → k ≠ bb → k ≠ bp → k ≠ bh → vo.ownBlock ≠ some k → vt.ownBlock ≠ some k → w'.heap[k]? = w.heap[k]?
/-- what lies in a block is kept by the block -/
theorem RamIs.blocks {w w' : World} {sb bp bw bh N : Nat} {m : Nat → Int} {wt ht : Int → Bool} (R : RamIs w sb bp bw bh N m wt ht) (h : ∀ k, k = sb ∨ k = bp ∨ k = bw ∨ k = bh → w'.heap[k]? = w.heap[k]?) : RamIs w' sb bp bw bh N m wt ht := by
  have hs := h sb (Or.inl rfl)
  have c : ∀ (j : Nat) (v : Value), w.cell? ⟨sb, j, none⟩ = some v → w'.cell? ⟨sb, j, none⟩ = some v := fun j v e => (World.cell?_of_block (a := ⟨sb, j, none⟩) hs).trans e
  refine ⟨c _ _ R.c0, c _ _ R.c1, c _ _ R.c2, R.pw, R.ph, R.wh, R.sp, R.sh, ?_, ?_, ?_, R.mb⟩
  · obtain ⟨D, ⟨es, clock, hb, r⟩, g⟩ := R.ps
    exact ⟨D, ⟨es, clock, (h bp (by simp)).trans hb, r⟩, g⟩
  · obtain ⟨D, ⟨es, clock, hb, r⟩, g⟩ := R.ws
    exact ⟨D, ⟨es, clock, (h bw (by simp)).trans hb, r⟩, g⟩
  · obtain ⟨D, ⟨es, clock, hb, r⟩, g⟩ := R.hs
    exact ⟨D, ⟨es, clock, (h bh (by simp)).trans hb, r⟩, g⟩
/-- a bus is what its blocks are -/
theorem BusIs.blocks {w w' : World} {base bb sb bp bw bh N : Nat} {m : Nat → Int} {wt ht : Int → Bool} {out : List Int} {lamp : Int} {tr : List Acc} {vo vt : Value} (B : BusIs w base bb sb bp bw bh N m wt ht out lamp tr vo vt) (hz : w.heap.size ≤ w'.heap.size)
    (h : ∀ k, k = bb ∨ k = sb ∨ k = bp ∨ k = bw ∨ k = bh ∨ vo.ownBlock = some k ∨ vt.ownBlock = some k → w'.heap[k]? = w.heap[k]?) : BusIs w' base bb sb bp bw bh N m wt ht out lamp tr vo vt := by
  have hs := h bb (Or.inl rfl)
  have c : ∀ (j : Nat) (v : Value), w.cell? ⟨bb, j, none⟩ = some v → w'.cell? ⟨bb, j, none⟩ = some v := fun j v e => (World.cell?_of_block (a := ⟨bb, j, none⟩) hs).trans e
  exact ⟨c _ _ B.c0, c _ _ B.c1, c _ _ B.c2, c _ _ B.c3, fun j => (World.frozen?_of_block (a := ⟨bb, j, none⟩) hs).trans (B.fz j), owns_blocks B.ro (fun k e => h k (by simp [e])), owns_blocks B.rt (fun k e => h k (by simp [e])),
    B.R.blocks (fun k e => h k (by rcases e with rfl | rfl | rfl | rfl <;> simp)), B.lb, B.ls, B.lp, B.lw, B.lh, B.ns, B.np, B.nw, B.nh, Nat.le_trans B.bs hz⟩
theorem BusIs.lt {w : World} {base bb sb bp bw bh N : Nat} {m : Nat → Int} {wt ht : Int → Bool} {out : List Int} {lamp : Int} {tr : List Acc} {vo vt : Value} (B : BusIs w base bb sb bp bw bh N m wt ht out lamp tr vo vt) {k : Nat} (h : k = bb ∨ k = sb ∨ k = bp ∨ k = bw ∨ k = bh ∨ vo.ownBlock = some k ∨ vt.ownBlock = some k) : k < w.heap.size := by
  have := B.bs; have := B.lb; have := B.ls; have := B.lp; have := B.lw; have := B.lh
  rcases h with rfl | rfl | rfl | rfl | rfl | h | h
  · omega
  · omega
  · omega
  · omega
  · omega
  · exact (B.ro.lt k h).2
  · exact (B.rt.lt k h).2
theorem BusIs.stays {w w' : World} {base bb sb bp bw bh N : Nat} {m : Nat → Int} {wt ht : Int → Bool} {out : List Int} {lamp : Int} {tr : List Acc} {vo vt : Value} (B : BusIs w base bb sb bp bw bh N m wt ht out lamp tr vo vt) (h : Below w.heap.size w w') : BusIs w' base bb sb bp bw bh N m wt ht out lamp tr vo vt :=
  B.blocks h.size fun k hk => h.block k (B.lt hk)
/-- another memory's store leaves a bus alone -/
theorem BusIs.turned {w w' : World} {base bb sb bp bw bh N b c : Nat} {m : Nat → Int} {wt ht : Int → Bool} {out : List Int} {lamp : Int} {tr : List Acc} {vo vt : Value} (B : BusIs w base bb sb bp bw bh N m wt ht out lamp tr vo vt) (t : Turned w w' b c) (hb : b < base) (hc : c < base) (h : ∀ k, k = bb ∨ k = sb ∨ k = bp ∨ k = bw ∨ k = bh → k ≠ b ∧ k ≠ c) : BusIs w' base bb sb bp bw bh N m wt ht out lamp tr vo vt := by
  refine B.blocks t.size fun k hk => ?_
  have hne : k ≠ b ∧ k ≠ c := by
    rcases hk with e | e | e | e | e | e | e
    · exact h k (by simp [e])
    · exact h k (by simp [e])
    · exact h k (by simp [e])
    · exact h k (by simp [e])
    · exact h k (by simp [e])
    · have := (B.ro.lt k e).1; omega
    · have := (B.rt.lt k e).1; omega
  exact t.block k (B.lt hk) hne.1 hne.2
theorem BTurned.refl (w : World) (bb bp bh : Nat) (vo vt : Value) : BTurned w w bb bp bh vo vt := ⟨rfl, rfl, rfl, Nat.le_refl _, fun _ _ _ _ _ _ _ => rfl⟩
theorem BTurned.of_turned {w w' : World} {bb bp bh : Nat} {vo vt : Value} (t : Turned w w' bp bh) : BTurned w w' bb bp bh vo vt := ⟨t.os, t.tape, t.output, t.size, fun k hk _ h1 h2 _ _ => t.block k hk h1 h2⟩
theorem BTurned.of_below {w w' : World} {bb bp bh : Nat} {vo vt : Value} (t : Below w.heap.size w w') : BTurned w w' bb bp bh vo vt := ⟨t.os, t.tape, t.output, t.size, fun k hk _ _ _ _ _ => t.block k hk⟩
theorem BTurned.trans {w w1 w2 : World} {bb bp bh : Nat} {vo vt vo' vt' : Value} (t : BTurned w w1 bb bp bh vo vt) (u : BTurned w1 w2 bb bp bh vo' vt') (ho : Moved w vo vo') (ht : Moved w vt vt') : BTurned w w2 bb bp bh vo vt := by
  refine ⟨u.os.trans t.os, u.tape.trans t.tape, u.output.trans t.output, Nat.le_trans t.size u.size, fun k hk h0 h1 h2 h3 h4 => ?_⟩
  rw [u.block k (Nat.lt_of_lt_of_le hk t.size) h0 h1 h2 ?_ ?_, t.block k hk h0 h1 h2 h3 h4]
  · intro e; rcases ho k e with e | e
    · exact h3 e
    · omega
  · intro e; rcases ht k e with e | e
    · exact h4 e
    · omega
theorem Moved.trans {w w1 : World} {v v1 v2 : Value} (a : Moved w v v1) (b : Moved w1 v1 v2) (hz : w.heap.size ≤ w1.heap.size) : Moved w v v2 := by
  intro k hk
  rcases b k hk with e | e
  · exact a k e
  · exact Or.inr (by omega)
/-- what lies below is kept -/
theorem BTurned.below {w0 w w' : World} {B bb bp bh base : Nat} {vo vt : Value} (t : BTurned w w' bb bp bh vo vt) (h0 : Below B w0 w) (hB : B ≤ w0.heap.size) (h1 : B ≤ bb) (h2 : B ≤ bp) (h3 : B ≤ bh) (h4 : ∀ k, vo.ownBlock = some k → B ≤ k) (h5 : ∀ k, vt.ownBlock = some k → B ≤ k) : Below B w0 w' :=
  ⟨t.os.trans h0.os, t.tape.trans h0.tape, t.output.trans h0.output, Nat.le_trans h0.size t.size, fun k hk => (t.block k (by have := h0.size; omega) (by omega) (by omega) (by omega) (fun e => by have := h4 k e; omega) (fun e => by have := h5 k e; omega)).trans (h0.block k hk)⟩
end Go.Proofs.YtckcbnfobjmhpaaDoor
