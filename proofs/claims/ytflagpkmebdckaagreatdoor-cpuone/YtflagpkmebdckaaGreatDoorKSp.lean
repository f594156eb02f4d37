/-
  What instructions make of a processor's state, in whole numbers: sums and branches.
-/
import Derived.Lib.SliceRun
import Derived.Laws.BytesArg
import Derived.BigQuiet
import Derived.Deep.MidRow
import Derived.Laws.CopyOwn
import Derived.Test.YtflagpkmebdckaaGreatDoorKNum
import Derived.Test.YtflagpkmebdckaaGreatDoorJDocW
import Derived.Test.YtflagpkmebdckaaGreatDoorKIrChk2
import Derived.Test.YtflagpkmebdckaaGreatDoorKOptFns
import Derived.Test.YtflagpkmebdckaaGreatDoorKPlPure
import Derived.Test.YtflagpkmebdckaaGreatDoorJDoc6
import Derived.Test.YtflagpkmebdckaaGreatDoorKSt0
import Derived.Test.YtflagpkmebdckaaGreatDoorKLayC
import Derived.Test.YtflagpkmebdckaaGreatDoorKGEf
import Derived.Test.YtflagpkmebdckaaGreatDoorQKMatch
import Derived.Test.YtflagpkmebdckaaGreatDoorQRun2
namespace Go.Proofs.YtflagpkmebdckaaGreatDoor
open Num
set_option linter.unusedVariables false
export Low (immI szI sgI)
def St.set (S : St) (n : Nat) (v : Int) : St := if n = 0 then S else { S with r := fun i => if i = n then v else S.r i }
def St.on (S : St) : St := { S with pc := S.nx, nx := Num.lo (S.nx + 4), sl := false }
def St.jump (S : St) (a : Int) : St := { S with pc := a, nx := Num.lo (a + 4), sl := false }
def bitI (b : Bool) : Int := if b = true then 1 else 0
def bitsI (k : Nat) (a b : Int) : Int :=
  if k = 23 ∨ k = 39 then bits .and .u32 a b else if k = 24 ∨ k = 40 then bits .or .u32 a b else if k = 25 ∨ k = 41 then bits .xor .u32 a b else if k = 26 then bits .xor .u32 4294967295 (bits .or .u32 a b)
  else if k = 27 ∨ k = 37 then bitI (lessB a b true) else if k = 28 ∨ k = 38 then bitI (lessB a b false) else if k = 1 ∨ k = 4 then shf 60 a b else if k = 2 ∨ k = 5 then shf 62 a b else if k = 3 ∨ k = 6 then shf 126 a b else shf 60 b 16
def resI (S : St) (k : Nat) (a b : Int) : Int :=
  if k = 19 ∨ k = 35 then lo (a + b) else if k = 21 then lo (a - b) else if k = 20 ∨ k = 36 then lo (a + b) else if k = 22 then lo (a - b) else if k = 11 then S.hi else if k = 13 then S.lo else bitsI k a b
def overI (k : Nat) (a b : Int) : Bool := if k = 19 ∨ k = 35 then ov (sg a + sg b) else if k = 21 then ov (sg a - sg b) else false
def opA (S : St) (k s t : Nat) : Int := if k = 1 ∨ k = 2 ∨ k = 3 ∨ k = 4 ∨ k = 5 ∨ k = 6 then S.r t else S.r s
def opB (S : St) (k s t : Nat) (m : Int) : Int := if k = 1 ∨ k = 2 ∨ k = 3 then immI k m else if k = 4 ∨ k = 5 ∨ k = 6 then S.r s else if 35 ≤ k ∧ k ≤ 42 then immI k m else S.r t
def opT (k t d : Nat) : Nat := if 35 ≤ k ∧ k ≤ 42 then t else d
def sumP (S : St) (k s t d : Nat) (m : Int) : Int × St :=
  if k = 15 ∨ k = 16 then (-1, St.on { S with hi := hi (nm (opA S k s t) (decide (k = 15)) * nm (opB S k s t m) (decide (k = 15))), lo := lo (nm (opA S k s t) (decide (k = 15)) * nm (opB S k s t m) (decide (k = 15))) })
  else if k = 17 ∨ k = 18 then (-1, if opB S k s t m = 0 then S.on else St.on { S with lo := quo (opA S k s t) (opB S k s t m) (decide (k = 17)), hi := rst (opA S k s t) (opB S k s t m) (decide (k = 17)) })
  else if k = 12 then (-1, St.on { S with hi := opA S k s t }) else if k = 14 then (-1, St.on { S with lo := opA S k s t })
  else if overI k (opA S k s t) (opB S k s t m) = true then (12, S) else (-1, (S.set (opT k t d) (resI S k (opA S k s t) (opB S k s t m))).on)
def adI (S : St) (k s : Nat) (m : Int) : Int := lo (S.r s + immI k m)
def takenI (S : St) (k s t : Nat) : Bool := if k = 31 then decide (S.r s = S.r t) else if k = 32 then !decide (S.r s = S.r t) else if k = 33 then !lessB 0 (S.r s) true else if k = 34 then lessB 0 (S.r s) true else true
def targI (S : St) (k s : Nat) (m : Int) : Int := if k = 29 ∨ k = 30 then bits .or .u32 (bits .and .u32 (lo (S.pc + 4)) 4026531840) (lo (4 * m)) else if k = 7 ∨ k = 8 then S.r s else lo (lo (S.pc + 4) + lo (4 * immI k m))
def branchP (S : St) (k s t d : Nat) (m : Int) : Int × St :=
  if S.sl = true then (10, S) else
    (-1, { (if k = 30 then S.set 31 (lo (S.pc + 8)) else if k = 8 then S.set d (lo (S.pc + 8)) else S) with pc := S.nx, nx := if takenI S k s t = true then targI S k s m else lo (S.nx + 4), sl := true })
end Go.Proofs.YtflagpkmebdckaaGreatDoor
/-
  sameOps, of two slices that hold the same ops.
-/
namespace Go.Proofs.YtflagpkmebdckaaGreatDoor
open Go.RowKit Go.Maps
open Num
set_option linter.unusedVariables false
end Go.Proofs.YtflagpkmebdckaaGreatDoor
/-
  each: rows of one op.
-/
namespace Go.Proofs.YtflagpkmebdckaaGreatDoor
open Go.RowKit Go.Maps
open Num
set_option linter.unusedVariables false
/-- rows of ops -/
structure RowsIn (w : World) (v : Value) (ll : List (List Opx)) : Prop where
  sh : ∃ ao cap, v = .slice ao ll.length cap ∧ ll.length ≤ cap ∧ (0 < ll.length → ∃ b, ao = some ⟨b, 0, none⟩ ∧ ∀ i l, ll[i]? = some l → ∃ u, w.cell? ⟨b, i, none⟩ = some u ∧ OpsIn w u l)
theorem RowsIn.stays {w w' : World} {v : Value} {ll : List (List Opx)} (R : RowsIn w v ll) (h : Below w.heap.size w w') : RowsIn w' v ll := by
  obtain ⟨ao, cap, e, hcp, hh⟩ := R.sh
  exact ⟨ao, cap, e, hcp, fun hp => let ⟨b, eb, hc⟩ := hh hp; ⟨b, eb, fun i l hi => let ⟨u, hu, hO⟩ := hc i l hi; ⟨u, (h.cell (World.block_lt_of_cell? _ _ hu)).trans hu, hO.stays h⟩⟩⟩
/-- rows of one op: each in a block of its own, apart from the row vo that holds them -/
def Ones (w : World) (vo : Value) (us : List Value) (l : List Opx) : Prop := us.length = l.length ∧ ∀ (k : Nat) (u : Value) (o : Opx), us[k]? = some u → l[k]? = some o → ∃ g, u = .slice (some ⟨g, 0, none⟩) 1 1 ∧ OpsIn w u [o] ∧ vo.ownBlock ≠ some g ∧ g < w.heap.size
/-- the rows at the end -/
theorem Ones.rows {w : World} {base : Nat} {vo : Value} {us : List Value} {l : List Opx} (H : Ones w vo us l) (ho : w.ownsRow base 52 1 vo us.length us) : RowsIn w vo (eachL l) := by
  have hlen : (eachL l).length = us.length := by unfold eachL; rw [List.length_map, H.1]
  obtain ⟨h1, h2⟩ := ho
  rcases h2 with ⟨hv, hn⟩ | ⟨g, cap, cur, hv, hb, hg, hr⟩
  · exact ⟨none, 0, by rw [hv, hlen, hn], by omega, fun hp => by omega⟩
  · obtain ⟨r1, r2, r3, r4⟩ := hr
    refine ⟨some ⟨g, 0, none⟩, cap, by rw [hv, hlen], by omega, fun _ => ⟨g, rfl, fun i row hi => ?_⟩⟩
    have hil : i < us.length := by rw [← hlen]; exact (List.getElem?_eq_some_iff.1 hi).1
    obtain ⟨o, ho, rfl⟩ : ∃ o, l[i]? = some o ∧ [o] = row := by
      unfold eachL at hi
      rw [List.getElem?_map] at hi
      cases hx : l[i]? with
      | none => rw [hx] at hi; cases hi
      | some o => rw [hx] at hi; exact ⟨o, rfl, by simpa using hi⟩
    obtain ⟨u, hu⟩ : ∃ u, us[i]? = some u := ⟨_, List.getElem?_eq_getElem hil⟩
    obtain ⟨a, rfl, hA, _, _⟩ := H.2 i u o hu ho
    refine ⟨_, ?_, hA⟩
    rw [cell_of_row _ _ _ _ _ _ hg]
    have : (cur.toList.take (us.length * 1))[i]? = some (.slice (some ⟨a, 0, none⟩) 1 1) := by rw [r4]; exact hu
    rw [List.getElem?_take, if_pos (by omega)] at this
    rw [← Array.getElem?_toList]; exact this
end Go.Proofs.YtflagpkmebdckaaGreatDoor
/-
  Package host: read.
-/
namespace Go.Proofs.YtflagpkmebdckaaGreatDoor
open Go.RowKit Go.Maps
open Num
set_option linter.unusedVariables false
section
variable {w : World} {base mb stb sb bp bw bh N : Nat} {X : Nat → Int} {p : List Pq} {vi : Value} {m : Nat → Int} {wt ht : Int → Bool}
end
end Go.Proofs.YtflagpkmebdckaaGreatDoor
/-
  Package host: write.
-/
namespace Go.Proofs.YtflagpkmebdckaaGreatDoor
open Go.RowKit Go.Maps
open Num
set_option linter.unusedVariables false
theorem Moved.trans {w w1 : World} {vi vj vk : Value} (h : Moved w vi vj) (g : Moved w1 vj vk) (hs : w.heap.size ≤ w1.heap.size) : Moved w vi vk := by
  intro k hk
  rcases g k hk with e | e
  · exact h k e
  · exact .inr (by omega)
section
variable {w : World} {base mb stb sb bp bw bh N : Nat} {X : Nat → Int} {p : List Pq} {vi : Value} {m : Nat → Int} {wt ht : Int → Bool}
end
end Go.Proofs.YtflagpkmebdckaaGreatDoor
/-
  A bus as package bus holds it: memory, output, lamp and trace behind a struct's pointer: what they are good for, in one word.
-/
namespace Go.Proofs.YtflagpkmebdckaaGreatDoor
open Go.RowKit Go.Maps
open Num
set_option linter.unusedVariables false
/-- an access -/
structure Acc where
  c : Int
  s : Bool
  a : Int
  v : Int
def accC (x : Acc) : List Value := [.int .i64 x.c, .bool x.s, .int .u32 x.a, .int .u32 x.v]
def outC (l : List Int) : List Value := l.map (Value.int .u8)
theorem outC_add (l : List Int) (x : Int) : outC l ++ [.int .u8 x] = outC (l ++ [x]) := by simp [outC]
theorem trC_add (l : List Acc) (x : Acc) : l.flatMap accC ++ accC x = (l ++ [x]).flatMap accC := by simp [List.flatMap_append]
theorem info5 : (Tryz.prog.info? 5).map (fun i => (i.zero, i.size, i.bytes)) = some (some (.int .u8 0), 1, 1) := by kernel_rfl
theorem info55 : (Tryz.prog.info? 187).map (fun i => (i.zero, i.size, i.bytes)) = some (some (.agg #[.int .i64 0, .bool false, .int .u32 0, .int .u32 0]), 4, 24) := by kernel_rfl
/-- block bb is a Bus: its memory, what was put out, the lamp, the trace -/
structure BusIs (w : World) (base bb sb bp bw bh N : Nat) (m : Nat → Int) (wt ht : Int → Bool) (out : List Int) (lamp : Int) (tr : List Acc) (vo vt : Value) : Prop where
  c0 : w.cell? ⟨bb, 0, none⟩ = some (.pointer (some ⟨sb, 0, none⟩))
  c1 : w.cell? ⟨bb, 1, none⟩ = some vo
  c2 : w.cell? ⟨bb, 2, none⟩ = some (.int .u32 lamp)
  c3 : w.cell? ⟨bb, 3, none⟩ = some vt
  fz : ∀ j, w.frozen? ⟨bb, j, none⟩ = false
  ro : w.ownsRow base 5 1 vo out.length (outC out)
  rt : w.ownsRow base 187 4 vt tr.length (tr.flatMap accC)
  R : RamIs w sb bp bw bh N m wt ht
  lb : bb < base
  ls : sb < base
  lp : bp < base
  lw : bw < base
  lh : bh < base
  ns : bb ≠ sb
  np : bb ≠ bp
  nw : bb ≠ bw
  nh : bb ≠ bh
  bs : base ≤ w.heap.size
/-- w' is w but for these blocks, and new ones -/
structure BTurned (w w' : World) (bb bp bh : Nat) (vo vt : Value) : Prop where
  os : w'.os = w.os
  tape : w'.tape = w.tape
  output : w'.output = w.output
  size : w.heap.size ≤ w'.heap.size
  block : ∀ k, k < w.heap.size → k ≠ bb → k ≠ bp → k ≠ bh → vo.ownBlock ≠ some k → vt.ownBlock ≠ some k → w'.heap[k]? = w.heap[k]?
/-- a bus is what its blocks are -/
theorem BusIs.blocks {w w' : World} {base bb sb bp bw bh N : Nat} {m : Nat → Int} {wt ht : Int → Bool} {out : List Int} {lamp : Int} {tr : List Acc} {vo vt : Value} (B : BusIs w base bb sb bp bw bh N m wt ht out lamp tr vo vt) (hz : w.heap.size ≤ w'.heap.size)
    (h : ∀ k, k = bb ∨ k = sb ∨ k = bp ∨ k = bw ∨ k = bh ∨ vo.ownBlock = some k ∨ vt.ownBlock = some k → w'.heap[k]? = w.heap[k]?) : BusIs w' base bb sb bp bw bh N m wt ht out lamp tr vo vt := by
  have hs := h bb (Or.inl rfl)
  have c : ∀ (j : Nat) (v : Value), w.cell? ⟨bb, j, none⟩ = some v → w'.cell? ⟨bb, j, none⟩ = some v := fun j v e => (World.cell?_of_block (a := ⟨bb, j, none⟩) hs).trans e
  exact ⟨c _ _ B.c0, c _ _ B.c1, c _ _ B.c2, c _ _ B.c3, fun j => (World.frozen?_of_block (a := ⟨bb, j, none⟩) hs).trans (B.fz j), owns_blocks B.ro (fun k e => h k (by simp [e])), owns_blocks B.rt (fun k e => h k (by simp [e])),
    B.R.blocks (fun k e => h k (by rcases e with rfl | rfl | rfl | rfl <;> simp)), B.lb, B.ls, B.lp, B.lw, B.lh, B.ns, B.np, B.nw, B.nh, Nat.le_trans B.bs hz⟩
theorem BusIs.lt {w : World} {base bb sb bp bw bh N : Nat} {m : Nat → Int} {wt ht : Int → Bool} {out : List Int} {lamp : Int} {tr : List Acc} {vo vt : Value} (B : BusIs w base bb sb bp bw bh N m wt ht out lamp tr vo vt) {k : Nat} (h : k = bb ∨ k = sb ∨ k = bp ∨ k = bw ∨ k = bh ∨ vo.ownBlock = some k ∨ vt.ownBlock = some k) : k < w.heap.size := by
  have := B.bs; have := B.lb; have := B.ls; have := B.lp; have := B.lw; have := B.lh
  rcases h with rfl | rfl | rfl | rfl | rfl | h | h
  · omega
  · omega
  · omega
  · omega
  · omega
  · exact (B.ro.lt k h).2
  · exact (B.rt.lt k h).2
theorem BusIs.stays {w w' : World} {base bb sb bp bw bh N : Nat} {m : Nat → Int} {wt ht : Int → Bool} {out : List Int} {lamp : Int} {tr : List Acc} {vo vt : Value} (B : BusIs w base bb sb bp bw bh N m wt ht out lamp tr vo vt) (h : Below w.heap.size w w') : BusIs w' base bb sb bp bw bh N m wt ht out lamp tr vo vt :=
  B.blocks h.size fun k hk => h.block k (B.lt hk)
/-- another memory's store leaves a bus alone -/
theorem BusIs.turned {w w' : World} {base bb sb bp bw bh N b c : Nat} {m : Nat → Int} {wt ht : Int → Bool} {out : List Int} {lamp : Int} {tr : List Acc} {vo vt : Value} (B : BusIs w base bb sb bp bw bh N m wt ht out lamp tr vo vt) (t : Turned w w' b c) (hb : b < base) (hc : c < base) (h : ∀ k, k = bb ∨ k = sb ∨ k = bp ∨ k = bw ∨ k = bh → k ≠ b ∧ k ≠ c) : BusIs w' base bb sb bp bw bh N m wt ht out lamp tr vo vt := by
  refine B.blocks t.size fun k hk => ?_
  have hne : k ≠ b ∧ k ≠ c := by
    rcases hk with e | e | e | e | e | e | e
    · exact h k (by simp [e])
    · exact h k (by simp [e])
    · exact h k (by simp [e])
    · exact h k (by simp [e])
    · exact h k (by simp [e])
    · have := (B.ro.lt k e).1; omega
    · have := (B.rt.lt k e).1; omega
  exact t.block k (B.lt hk) hne.1 hne.2
theorem BTurned.refl (w : World) (bb bp bh : Nat) (vo vt : Value) : BTurned w w bb bp bh vo vt := ⟨rfl, rfl, rfl, Nat.le_refl _, fun _ _ _ _ _ _ _ => rfl⟩
theorem BTurned.of_turned {w w' : World} {bb bp bh : Nat} {vo vt : Value} (t : Turned w w' bp bh) : BTurned w w' bb bp bh vo vt := ⟨t.os, t.tape, t.output, t.size, fun k hk _ h1 h2 _ _ => t.block k hk h1 h2⟩
theorem BTurned.of_below {w w' : World} {bb bp bh : Nat} {vo vt : Value} (t : Below w.heap.size w w') : BTurned w w' bb bp bh vo vt := ⟨t.os, t.tape, t.output, t.size, fun k hk _ _ _ _ _ => t.block k hk⟩
theorem BTurned.trans {w w1 w2 : World} {bb bp bh : Nat} {vo vt vo' vt' : Value} (t : BTurned w w1 bb bp bh vo vt) (u : BTurned w1 w2 bb bp bh vo' vt') (ho : Moved w vo vo') (ht : Moved w vt vt') : BTurned w w2 bb bp bh vo vt := by
  refine ⟨u.os.trans t.os, u.tape.trans t.tape, u.output.trans t.output, Nat.le_trans t.size u.size, fun k hk h0 h1 h2 h3 h4 => ?_⟩
  rw [u.block k (Nat.lt_of_lt_of_le hk t.size) h0 h1 h2 ?_ ?_, t.block k hk h0 h1 h2 h3 h4]
  · intro e; rcases ho k e with e | e
    · exact h3 e
    · omega
  · intro e; rcases ht k e with e | e
    · exact h4 e
    · omega
/-- what lies below is kept -/
theorem BTurned.below {w0 w w' : World} {B bb bp bh base : Nat} {vo vt : Value} (t : BTurned w w' bb bp bh vo vt) (h0 : Below B w0 w) (hB : B ≤ w0.heap.size) (h1 : B ≤ bb) (h2 : B ≤ bp) (h3 : B ≤ bh) (h4 : ∀ k, vo.ownBlock = some k → B ≤ k) (h5 : ∀ k, vt.ownBlock = some k → B ≤ k) : Below B w0 w' :=
  ⟨t.os.trans h0.os, t.tape.trans h0.tape, t.output.trans h0.output, Nat.le_trans h0.size t.size, fun k hk => (t.block k (by have := h0.size; omega) (by omega) (by omega) (by omega) (fun e => by have := h4 k e; omega) (fun e => by have := h5 k e; omega)).trans (h0.block k hk)⟩
end Go.Proofs.YtflagpkmebdckaaGreatDoor
/-
  The functions of package bus, but for New and Copy.
-/
namespace Go.Proofs.YtflagpkmebdckaaGreatDoor
open Go.RowKit Go.Maps
open Num
set_option linter.unusedVariables false
/-- does a device answer? -/
def dev (a s : Int) : Bool := decide (s = 4 ∧ a % 4 = 0 ∧ 65536 ≤ a ∧ a ≤ 65548)
theorem isDevice_any (a s : Int) (h0 : 0 ≤ a) (h1 : a < 4294967296) (s0 : -9223372036854775808 ≤ s) (s1 : s ≤ 9223372036854775807) (w : World) : Calls Tryz.prog 218 #[.int .u32 a, .int .i64 s] w fun e w' => e = .returned (.bool (dev a s)) ∧ w' = w := by
  by_cases h4 : s = 4
  · have e4 : (s == 4) = true := by simpa using h4
    by_cases hm : a % 4 = 0
    · have em : (a % 4 == 0) = true := by simpa using hm
      by_cases hl : 65536 ≤ a
      · by_cases hh : a ≤ 65548
        · have hd : dev a s = true := by unfold dev; simp [h4, hm, hl, hh]
          rw [hd]; clear hd hm
          subst h4
          go_enter Tryz.func218, Tryz.ntmps218
          go_wp2
          go_ret
          exact ⟨rfl, rfl⟩
        · have hd : dev a s = false := by unfold dev; simp [hh]
          rw [hd]; clear hd hm
          subst h4
          go_enter Tryz.func218, Tryz.ntmps218
          go_wp2
          go_ret
          exact ⟨rfl, rfl⟩
      · have hd : dev a s = false := by unfold dev; simp; omega
        rw [hd]; clear hd hm
        subst h4
        go_enter Tryz.func218, Tryz.ntmps218
        go_wp2
        go_ret
        exact ⟨rfl, rfl⟩
    · have em : (a % 4 == 0) = false := by simpa using hm
      have hd : dev a s = false := by unfold dev; simp [hm]
      rw [hd]; clear hd hm
      subst h4
      go_enter Tryz.func218, Tryz.ntmps218
      go_wp2
      go_ret
      exact ⟨rfl, rfl⟩
  · have e4 : (s == 4) = false := by simpa using h4
    have hd : dev a s = false := by unfold dev; simp [h4]
    rw [hd]; clear hd h4
    go_enter Tryz.func218, Tryz.ntmps218
    go_wp2
    go_ret
    exact ⟨rfl, rfl⟩
theorem rows_apart {w : World} {base e e' : Nat} {s s' n n' : Nat} {v v' : Value} {xs xs' : List Value} (h : w.ownsRow base e s v n xs) (h' : w.ownsRow base e' s' v' n' xs') (hne : e ≠ e') {k : Nat} (hk : v.ownBlock = some k) : v'.ownBlock ≠ some k := by
  intro hk'
  rcases h.2 with ⟨rfl, _⟩ | ⟨g, cap, cur, rfl, hb, hg, _⟩
  · simp [Value.ownBlock] at hk
  · rcases h'.2 with ⟨rfl, _⟩ | ⟨g', cap', cur', rfl, hb', hg', _⟩
    · simp [Value.ownBlock] at hk'
    · simp [Value.ownBlock] at hk hk'
      subst hk; subst hk'
      rw [hg] at hg'
      injection hg' with e1
      injection e1 with e2 e3 e4
      exact hne e3
section
variable {w : World} {base bb sb bp bw bh N : Nat} {m : Nat → Int} {wt ht : Int → Bool} {out : List Int} {lamp : Int} {tr : List Acc} {vo vt : Value}
theorem BusIs.putOut (B : BusIs w base bb sb bp bw bh N m wt ht out lamp tr vo vt) {o : Obj} {w1 : World} {v' : Value} {x : Int} (ho : w1.ownsRow base 5 1 v' (out.length + 1) (outC out ++ [.int .u8 x])) (hg : (w.alloc o).grownBy w1 vo.ownBlock) (hm : Moved (w.alloc o) vo v') :
    (w1.cell? ⟨bb, 1, none⟩ = some vo ∧ w1.frozen? ⟨bb, 1, none⟩ = false) ∧ BusIs (w1.setCell ⟨bb, 1, none⟩ v') base bb sb bp bw bh N m wt ht (out ++ [x]) lamp tr v' vt ∧ BTurned w (w1.setCell ⟨bb, 1, none⟩ v') bb bp bh vo vt ∧ Moved w vo v' := by
  have hz : w.heap.size < w1.heap.size := by have := hg.size; simp at this; omega
  have hmw : Moved w vo v' := fun k hk => (hm k hk).imp id (fun h => by simp at h; omega)
  have hk : ∀ k, k < w.heap.size → vo.ownBlock ≠ some k → w1.heap[k]? = w.heap[k]? := fun k hk h => (hg.block k (by simp; omega) (fun e => h e.symm)).trans (Below.heap_alloc w o k hk)
  have hlow : ∀ k, k < base → w1.heap[k]? = w.heap[k]? := fun k hb => hk k (by have := B.bs; omega) (fun e => by have := (B.ro.lt k e).1; omega)
  have hs := hlow bb B.lb
  have c : ∀ (j : Nat) (v : Value), w.cell? ⟨bb, j, none⟩ = some v → w1.cell? ⟨bb, j, none⟩ = some v := fun j v e => (World.cell?_of_block (a := ⟨bb, j, none⟩) hs).trans e
  have f : ∀ j, w1.frozen? ⟨bb, j, none⟩ = false := fun j => (World.frozen?_of_block (a := ⟨bb, j, none⟩) hs).trans (B.fz j)
  have oth : ∀ (j : Nat) (v : Value), j ≠ 1 → w.cell? ⟨bb, j, none⟩ = some v → (w1.setCell ⟨bb, 1, none⟩ v').cell? ⟨bb, j, none⟩ = some v := fun j v hj e => by
    rw [World.cell?_setCell_other _ _ _ _ (by intro e; injection e with e1 e2; exact hj e2.symm)]; exact c j v e
  have blk : ∀ k, k ≠ bb → (w1.setCell ⟨bb, 1, none⟩ v').heap[k]? = w1.heap[k]? := fun k h => Below.heap_setCell w1 ⟨bb, 1, none⟩ v' k h
  refine ⟨⟨c _ _ B.c1, f 1⟩, ⟨oth 0 _ (by omega) B.c0, World.cell?_setCell_same _ _ _ (c _ _ B.c1), oth 2 _ (by omega) B.c2, oth 3 _ (by omega) B.c3, fun j => by rw [World.frozen?_setCell]; exact f j, ?_, ?_, ?_, B.lb, B.ls, B.lp, B.lw, B.lh, B.ns, B.np, B.nw, B.nh, ?_⟩, ?_, hmw⟩
  · rw [List.length_append, ← outC_add]
    refine owns_blocks ho fun k e => blk k ?_
    have := (ho.lt k e).1; have := B.lb; omega
  · refine owns_blocks B.rt fun k e => (blk k ?_).trans (hk k (B.rt.lt k e).2 ?_)
    · have := (B.rt.lt k e).1; have := B.lb; omega
    · intro e2; exact rows_apart B.ro B.rt (by decide) e2 e
  · refine B.R.blocks fun k e => ?_
    have h1 := B.ns; have h2 := B.np; have h3 := B.nw; have h4 := B.nh; have l1 := B.ls; have l2 := B.lp; have l3 := B.lw; have l4 := B.lh
    exact (blk k (by omega)).trans (hlow k (by omega))
  · have := B.bs; simp; omega
  · refine ⟨hg.os, hg.tape, hg.output, by simp; omega, fun k hkk h0 h1 h2 h3 h4 => (blk k h0).trans (hk k hkk h3)⟩
theorem BusIs.putTr (B : BusIs w base bb sb bp bw bh N m wt ht out lamp tr vo vt) {o : Obj} {w1 : World} {v' : Value} {x : Acc} (ho : w1.ownsRow base 187 4 v' (tr.length + 1) (tr.flatMap accC ++ accC x)) (hg : (w.alloc o).grownBy w1 vt.ownBlock) (hm : Moved (w.alloc o) vt v') :
    (w1.cell? ⟨bb, 3, none⟩ = some vt ∧ w1.frozen? ⟨bb, 3, none⟩ = false) ∧ BusIs (w1.setCell ⟨bb, 3, none⟩ v') base bb sb bp bw bh N m wt ht out lamp (tr ++ [x]) vo v' ∧ BTurned w (w1.setCell ⟨bb, 3, none⟩ v') bb bp bh vo vt ∧ Moved w vt v' := by
  have hz : w.heap.size < w1.heap.size := by have := hg.size; simp at this; omega
  have hmw : Moved w vt v' := fun k hk => (hm k hk).imp id (fun h => by simp at h; omega)
  have hk : ∀ k, k < w.heap.size → vt.ownBlock ≠ some k → w1.heap[k]? = w.heap[k]? := fun k hk h => (hg.block k (by simp; omega) (fun e => h e.symm)).trans (Below.heap_alloc w o k hk)
  have hlow : ∀ k, k < base → w1.heap[k]? = w.heap[k]? := fun k hb => hk k (by have := B.bs; omega) (fun e => by have := (B.rt.lt k e).1; omega)
  have hs := hlow bb B.lb
  have c : ∀ (j : Nat) (v : Value), w.cell? ⟨bb, j, none⟩ = some v → w1.cell? ⟨bb, j, none⟩ = some v := fun j v e => (World.cell?_of_block (a := ⟨bb, j, none⟩) hs).trans e
  have f : ∀ j, w1.frozen? ⟨bb, j, none⟩ = false := fun j => (World.frozen?_of_block (a := ⟨bb, j, none⟩) hs).trans (B.fz j)
  have oth : ∀ (j : Nat) (v : Value), j ≠ 3 → w.cell? ⟨bb, j, none⟩ = some v → (w1.setCell ⟨bb, 3, none⟩ v').cell? ⟨bb, j, none⟩ = some v := fun j v hj e => by
    rw [World.cell?_setCell_other _ _ _ _ (by intro e; injection e with e1 e2; exact hj e2.symm)]; exact c j v e
  have blk : ∀ k, k ≠ bb → (w1.setCell ⟨bb, 3, none⟩ v').heap[k]? = w1.heap[k]? := fun k h => Below.heap_setCell w1 ⟨bb, 3, none⟩ v' k h
  refine ⟨⟨c _ _ B.c3, f 3⟩, ⟨oth 0 _ (by omega) B.c0, oth 1 _ (by omega) B.c1, oth 2 _ (by omega) B.c2, World.cell?_setCell_same _ _ _ (c _ _ B.c3), fun j => by rw [World.frozen?_setCell]; exact f j, ?_, ?_, ?_, B.lb, B.ls, B.lp, B.lw, B.lh, B.ns, B.np, B.nw, B.nh, ?_⟩, ?_, hmw⟩
  · refine owns_blocks B.ro fun k e => (blk k ?_).trans (hk k (B.ro.lt k e).2 ?_)
    · have := (B.ro.lt k e).1; have := B.lb; omega
    · intro e2; exact rows_apart B.rt B.ro (by decide) e2 e
  · rw [List.length_append, ← trC_add]
    refine owns_blocks ho fun k e => blk k ?_
    have := (ho.lt k e).1; have := B.lb; omega
  · refine B.R.blocks fun k e => ?_
    have h1 := B.ns; have h2 := B.np; have h3 := B.nw; have h4 := B.nh; have l1 := B.ls; have l2 := B.lp; have l3 := B.lw; have l4 := B.lh
    exact (blk k (by omega)).trans (hlow k (by omega))
  · have := B.bs; simp; omega
  · refine ⟨hg.os, hg.tape, hg.output, by simp; omega, fun k hkk h0 h1 h2 h3 h4 => (blk k h0).trans (hk k hkk h4)⟩
theorem BusIs.putLamp (B : BusIs w base bb sb bp bw bh N m wt ht out lamp tr vo vt) (x : Int) :
    BusIs (w.setCell ⟨bb, 2, none⟩ (.int .u32 x)) base bb sb bp bw bh N m wt ht out x tr vo vt ∧ BTurned w (w.setCell ⟨bb, 2, none⟩ (.int .u32 x)) bb bp bh vo vt := by
  have oth : ∀ (j : Nat) (v : Value), j ≠ 2 → w.cell? ⟨bb, j, none⟩ = some v → (w.setCell ⟨bb, 2, none⟩ (.int .u32 x)).cell? ⟨bb, j, none⟩ = some v := fun j v hj e => by
    rw [World.cell?_setCell_other _ _ _ _ (by intro e; injection e with e1 e2; exact hj e2.symm)]; exact e
  have blk : ∀ k, k ≠ bb → (w.setCell ⟨bb, 2, none⟩ (.int .u32 x)).heap[k]? = w.heap[k]? := fun k h => Below.heap_setCell w ⟨bb, 2, none⟩ _ k h
  refine ⟨⟨oth 0 _ (by omega) B.c0, oth 1 _ (by omega) B.c1, World.cell?_setCell_same _ _ _ B.c2, oth 3 _ (by omega) B.c3, fun j => by rw [World.frozen?_setCell]; exact B.fz j, ?_, ?_, ?_, B.lb, B.ls, B.lp, B.lw, B.lh, B.ns, B.np, B.nw, B.nh, ?_⟩, ?_⟩
  · exact owns_blocks B.ro fun k e => blk k (by have := (B.ro.lt k e).1; have := B.lb; omega)
  · exact owns_blocks B.rt fun k e => blk k (by have := (B.rt.lt k e).1; have := B.lb; omega)
  · refine B.R.blocks fun k e => ?_
    have h1 := B.ns; have h2 := B.np; have h3 := B.nw; have h4 := B.nh
    exact blk k (by omega)
  · have := B.bs; simp; omega
  · exact ⟨rfl, rfl, rfl, by simp, fun k hkk h0 h1 h2 h3 h4 => blk k h0⟩
end
end Go.Proofs.YtflagpkmebdckaaGreatDoor
/-
  What a device takes and tells, and the trace.
-/
namespace Go.Proofs.YtflagpkmebdckaaGreatDoor
open Go.RowKit Go.Maps
open Num
set_option linter.unusedVariables false
theorem owns_pos {w : World} {base : Nat} {e : TypeId} {size n : Nat} {v : Value} {xs : List Value} (h : w.ownsRow base e size v (n + 1) xs) : ∃ g cap, v = .slice (some ⟨g, 0, none⟩) (n + 1) cap := by
  rcases h.2 with ⟨_, h⟩ | ⟨g, cap, cur, rfl, _⟩
  · omega
  · exact ⟨g, cap, rfl⟩
def outN (out : List Int) (a v : Int) : List Int := if a = 65536 then out ++ [v % 256] else out
def lampN (lamp a v : Int) : Int := if a = 65544 then v else lamp
section
variable {w : World} {base bb sb bp bw bh N : Nat} {m : Nat → Int} {wt ht : Int → Bool} {out : List Int} {lamp : Int} {tr : List Acc} {vo vt : Value}
set_option maxRecDepth 100000 in
set_option maxHeartbeats 1000000 in
theorem toDevice_any (B : BusIs w base bb sb bp bw bh N m wt ht out lamp tr vo vt) (a v : Int) (h0 : 0 ≤ a) (h1 : a < 4294967296) (v0 : 0 ≤ v) (v1 : v < 4294967296) (hn : out.length ≤ 1000) :
    Calls Tryz.prog 220 #[.pointer (some ⟨bb, 0, none⟩), .int .u32 a, .int .u32 v] w fun e w' => e = .returned (.tuple #[]) ∧ ∃ vo', BusIs w' base bb sb bp bw bh N m wt ht (outN out a v) (lampN lamp a v) tr vo' vt ∧ BTurned w w' bb bp bh vo vt ∧ Moved w vo vo' := by
  have c1 := B.c1
  have c2 := B.c2
  have f1 := B.fz 1
  have f2 := B.fz 2
  have BH : Hid (BusIs w base bb sb bp bw bh N m wt ht out lamp tr vo vt) := B
  have hbs : base ≤ w.heap.size := B.bs
  clear B
  by_cases ha : a = 65536
  · have hO : outN out a v = out ++ [v % 256] := by unfold outN; rw [if_pos ha]
    have hL : lampN lamp a v = lamp := by unfold lampN; rw [if_neg (by omega)]
    rw [hO, hL]; clear hO hL
    have e1 : (a == 65536) = true := by simpa using ha
    clear ha
    obtain ⟨i0, hi, hz0, hz1, hz2⟩ := info_parts info5
    have hnews : ∀ (j : Nat) (u : Value), [Value.int .u8 (v % 256)][j]? = some u → (w.alloc (.cells #[.int .u8 (v % 256)] 5)).cell? ((⟨w.heap.size, 0, none⟩ : Addr).add j) = some u := by
      intro j u hj
      rw [add_lit, cell_of_row _ _ _ _ _ _ (heap_alloc_new w _)]
      simpa using hj
    go_enter Tryz.func220, Tryz.ntmps220
    go_wp2_with (at_builtin; refine wpList_append_moved rfl _ _ 92 rfl base 5 i0 (.int .u8 0) 1 1 Tryz.underlying92 hi hz0 hz1 hz2 rfl (by decide) vo out.length (outC out) rfl (BH.out.ro.alloc _) ⟨w.heap.size, 0, none⟩ 1 1 [.int .u8 (v % 256)] rfl rfl hnews (by simp [Value.oneCell']) (by unfold maxLen; omega) (by omega) (by simp; omega) ?_; intro v' w1 ho hg hm; obtain ⟨g', cap', rfl⟩ := owns_pos ho; have hp := BH.out.putOut ho hg hm; obtain ⟨⟨hc1, hf1⟩, hp2⟩ := hp)
    first | go_end0 | refine bodyPost_ret (results_none rfl _ _ _) rfl ?_
    exact ⟨rfl, _, hp2⟩
  · have hO : outN out a v = out := by unfold outN; rw [if_neg ha]
    have e1 : (a == 65536) = false := by simpa using ha
    rw [hO]; clear hO ha
    by_cases hb : a = 65544
    · have hL : lampN lamp a v = v := by unfold lampN; rw [if_pos hb]
      rw [hL]; clear hL
      have e2 : (a == 65544) = true := by simpa using hb
      clear hb
      go_enter Tryz.func220, Tryz.ntmps220
      go_wp2
      first | go_end0 | refine bodyPost_ret (results_none rfl _ _ _) rfl ?_
      exact ⟨rfl, vo, (BH.out.putLamp v).1, (BH.out.putLamp v).2, Moved.refl _ _⟩
    · have hL : lampN lamp a v = lamp := by unfold lampN; rw [if_neg hb]
      rw [hL]; clear hL
      have e2 : (a == 65544) = false := by simpa using hb
      clear hb
      go_enter Tryz.func220, Tryz.ntmps220
      go_wp2
      first | go_end0 | refine bodyPost_ret (results_none rfl _ _ _) rfl ?_
      exact ⟨rfl, vo, BH.out, BTurned.refl _ _ _ _ _ _, Moved.refl _ _⟩
/-- what a device tells -/
def devV (a c lamp : Int) : Int := if a = 65540 then c % 4294967296 else if a = 65544 then lamp else 0
set_option maxRecDepth 100000 in
set_option maxHeartbeats 1000000 in
theorem fromDevice_any (B : BusIs w base bb sb bp bw bh N m wt ht out lamp tr vo vt) (a c : Int) (h0 : 0 ≤ a) (h1 : a < 4294967296) (c0 : -9223372036854775808 ≤ c) (c1 : c ≤ 9223372036854775807) :
    Calls Tryz.prog 219 #[.pointer (some ⟨bb, 0, none⟩), .int .u32 a, .int .i64 c] w fun e w' => e = .returned (.int .u32 (devV a c lamp)) ∧ w' = w := by
  have k2 := B.c2
  clear B
  by_cases ha : a = 65540
  · have e1 : (a == 65540) = true := by simpa using ha
    have hL : devV a c lamp = c % 4294967296 := by unfold devV; rw [if_pos ha]
    rw [hL]; clear hL ha
    go_enter Tryz.func219, Tryz.ntmps219
    go_wp2
    go_ret
    exact ⟨rfl, rfl⟩
  · have e1 : (a == 65540) = false := by simpa using ha
    by_cases hb : a = 65544
    · have e2 : (a == 65544) = true := by simpa using hb
      have hL : devV a c lamp = lamp := by unfold devV; rw [if_neg ha, if_pos hb]
      rw [hL]; clear hL ha hb
      go_enter Tryz.func219, Tryz.ntmps219
      go_wp2
      go_ret
      exact ⟨rfl, rfl⟩
    · have e2 : (a == 65544) = false := by simpa using hb
      have hL : devV a c lamp = 0 := by unfold devV; rw [if_neg ha, if_neg hb]
      rw [hL]; clear hL ha hb
      go_enter Tryz.func219, Tryz.ntmps219
      go_wp2
      go_ret
      exact ⟨rfl, rfl⟩
theorem acc_cells (w : World) (x : Acc) : ∀ (j : Nat) (u : Value), (accC x)[j]? = some u → (w.alloc (.cells #[.int .i64 x.c, .bool x.s, .int .u32 x.a, .int .u32 x.v] 187)).cell? ((⟨w.heap.size, 0, none⟩ : Addr).add j) = some u := by
  intro j u hj
  rw [add_lit, cell_of_row _ _ _ _ _ _ (heap_alloc_new w _)]
  unfold accC at hj
  simpa using hj
set_option maxRecDepth 100000 in
set_option maxHeartbeats 1000000 in
theorem store_dev (B : BusIs w base bb sb bp bw bh N m wt ht out lamp tr vo vt) (a s v c : Int) (h0 : 0 ≤ a) (h1 : a < 4294967296) (s0 : -9223372036854775808 ≤ s) (s1 : s ≤ 9223372036854775807) (v0 : 0 ≤ v) (v1 : v < 4294967296) (c0 : -9223372036854775808 ≤ c) (c1 : c ≤ 9223372036854775807) (hn : out.length ≤ 1000) (hn2 : tr.length ≤ 1000) (hd : dev a s = true) :
    Calls Tryz.prog 165 #[.pointer (some ⟨bb, 0, none⟩), .int .u32 a, .int .i64 s, .int .u32 v, .int .i64 c] w fun e w' => e = .returned .nilIface ∧ ∃ vo' vt', BusIs w' base bb sb bp bw bh N m wt ht (outN out a v) (lampN lamp a v) (tr ++ [⟨c, true, a, v⟩]) vo' vt' ∧ BTurned w w' bb bp bh vo vt ∧ Moved w vo vo' ∧ Moved w vt vt' := by
  obtain ⟨i0, hi, hz0, hz1, hz2⟩ := info_parts info55
  have hck := isDevice_any a s h0 h1 s0 s1 w
  rw [hd] at hck
  have BH : Hid (BusIs w base bb sb bp bw bh N m wt ht out lamp tr vo vt) := B
  have htd := toDevice_any B a v h0 h1 v0 v1 hn
  clear B hd
  go_enter Tryz.func165, Tryz.ntmps165
  go_wp2_with (go_at_call 218; refine hck.mono ?_; rintro e w' ⟨rfl, rfl⟩)
  refine htd.mono ?_
  rintro e w1 ⟨rfl, vo1, B1, T1, M1⟩
  clear htd hck
  have c3 := B1.c3
  have hbs : base ≤ w1.heap.size := B1.bs
  have BH1 : Hid (BusIs w1 base bb sb bp bw bh N m wt ht (outN out a v) (lampN lamp a v) tr vo1 vt) := B1
  have hnews := acc_cells w1 ⟨c, true, a, v⟩
  clear B1
  go_wp2_with (at_builtin; refine wpList_append_moved rfl _ _ 37 rfl base 187 i0 (.agg #[.int .i64 0, .bool false, .int .u32 0, .int .u32 0]) 4 24 Tryz.underlying37 hi hz0 hz1 hz2 rfl (by decide) vt tr.length (tr.flatMap accC) rfl (BH1.out.rt.alloc _) ⟨w1.heap.size, 0, none⟩ 1 1 (accC ⟨c, true, a, v⟩) rfl rfl hnews (by simp [Value.oneCell', accC]) (by unfold maxLen; omega) (by omega) (by simp; omega) ?_; intro v' w2 ho hg hm; obtain ⟨g', cap', rfl⟩ := owns_pos ho; have hp := BH1.out.putTr ho hg hm; obtain ⟨⟨hc1, hf1⟩, hp2⟩ := hp)
  go_ret
  exact ⟨rfl, vo1, _, hp2.1, T1.trans hp2.2.1 M1 (Moved.refl _ _), M1, fun k hk => (hp2.2.2 k hk).imp id (fun h => Nat.le_trans T1.size h)⟩
set_option maxRecDepth 100000 in
set_option maxHeartbeats 1000000 in
theorem load_dev (B : BusIs w base bb sb bp bw bh N m wt ht out lamp tr vo vt) (a s c : Int) (sg : Bool) (h0 : 0 ≤ a) (h1 : a < 4294967296) (s0 : -9223372036854775808 ≤ s) (s1 : s ≤ 9223372036854775807) (c0 : -9223372036854775808 ≤ c) (c1 : c ≤ 9223372036854775807) (hn2 : tr.length ≤ 1000) (hd : dev a s = true) :
    Calls Tryz.prog 163 #[.pointer (some ⟨bb, 0, none⟩), .int .u32 a, .int .i64 s, .bool sg, .int .i64 c] w fun e w' => e = .returned (.tuple #[.int .u32 (devV a c lamp), .nilIface]) ∧ ∃ vt', BusIs w' base bb sb bp bw bh N m wt ht out lamp (tr ++ [⟨c, false, a, devV a c lamp⟩]) vo vt' ∧ BTurned w w' bb bp bh vo vt ∧ Moved w vt vt' := by
  obtain ⟨i0, hi, hz0, hz1, hz2⟩ := info_parts info55
  have hck := isDevice_any a s h0 h1 s0 s1 w
  rw [hd] at hck
  have BH1 : Hid (BusIs w base bb sb bp bw bh N m wt ht out lamp tr vo vt) := B
  have hfd := fromDevice_any B a c h0 h1 c0 c1
  have c3 := B.c3
  have hbs : base ≤ w.heap.size := B.bs
  have hnews := acc_cells w ⟨c, false, a, devV a c lamp⟩
  clear B hd
  generalize devV a c lamp = dv at *
  go_enter Tryz.func163, Tryz.ntmps163
  go_wp2_with (first | (go_at_call 218; refine hck.mono ?_; rintro e w' ⟨rfl, rfl⟩) | (go_at_call 219; refine hfd.mono ?_; rintro e w' ⟨rfl, rfl⟩) | (at_builtin; refine wpList_append_moved rfl _ _ 37 rfl base 187 i0 (.agg #[.int .i64 0, .bool false, .int .u32 0, .int .u32 0]) 4 24 Tryz.underlying37 hi hz0 hz1 hz2 rfl (by decide) vt tr.length (tr.flatMap accC) rfl (BH1.out.rt.alloc _) ⟨_, 0, none⟩ 1 1 (accC ⟨c, false, a, dv⟩) rfl rfl hnews (by simp [Value.oneCell', accC]) (by unfold maxLen; omega) (by omega) (by simp; omega) ?_; intro v' w2 ho hg hm; obtain ⟨g', cap', rfl⟩ := owns_pos ho; have hp := BH1.out.putTr ho hg hm; obtain ⟨⟨hc1, hf1⟩, hp2⟩ := hp))
  go_ret2
  exact ⟨rfl, _, hp2.1, hp2.2.1, hp2.2.2⟩
end
end Go.Proofs.YtflagpkmebdckaaGreatDoor
/-
  Where no device answers; a new bus; the trace that is told.
-/
namespace Go.Proofs.YtflagpkmebdckaaGreatDoor
open Go.RowKit Go.Maps
open Num
set_option linter.unusedVariables false
section
variable {w : World} {base bb sb bp bw bh N : Nat} {m : Nat → Int} {wt ht : Int → Bool} {out : List Int} {lamp : Int} {tr : List Acc} {vo vt : Value}
/-- its own memory's store -/
theorem BusIs.own {w' : World} {N' : Nat} {m' : Nat → Int} {wt' ht' : Int → Bool} (B : BusIs w base bb sb bp bw bh N m wt ht out lamp tr vo vt) (R : RamIs w' sb bp bw bh N' m' wt' ht') (t : Turned w w' bp bh) : BusIs w' base bb sb bp bw bh N' m' wt' ht' out lamp tr vo vt := by
  have hlt : ∀ k, k < base → k < w.heap.size := fun k h => Nat.lt_of_lt_of_le h B.bs
  have hs := t.block bb (hlt _ B.lb) B.np B.nh
  have c : ∀ (j : Nat) (v : Value), w.cell? ⟨bb, j, none⟩ = some v → w'.cell? ⟨bb, j, none⟩ = some v := fun j v e => (World.cell?_of_block (a := ⟨bb, j, none⟩) hs).trans e
  refine ⟨c _ _ B.c0, c _ _ B.c1, c _ _ B.c2, c _ _ B.c3, fun j => (World.frozen?_of_block (a := ⟨bb, j, none⟩) hs).trans (B.fz j), ?_, ?_, R, B.lb, B.ls, B.lp, B.lw, B.lh, B.ns, B.np, B.nw, B.nh, Nat.le_trans B.bs t.size⟩
  · exact owns_blocks B.ro fun k e => t.block k (B.ro.lt k e).2 (by have := (B.ro.lt k e).1; have := B.lp; omega) (by have := (B.ro.lt k e).1; have := B.lh; omega)
  · exact owns_blocks B.rt fun k e => t.block k (B.rt.lt k e).2 (by have := (B.rt.lt k e).1; have := B.lp; omega) (by have := (B.rt.lt k e).1; have := B.lh; omega)
set_option maxRecDepth 100000 in
set_option maxHeartbeats 1000000 in
theorem store_mem (B : BusIs w base bb sb bp bw bh N m wt ht out lamp tr vo vt) (a s v c : Int) (h0 : 0 ≤ a) (h1 : a < 4294967296) (s0 : -9223372036854775808 ≤ s) (s1 : s ≤ 9223372036854775807) (v0 : 0 ≤ v) (v1 : v < 4294967296) (hN : N + 1 < maxLen) (hc : chk a s = 0) :
    Calls Tryz.prog 165 #[.pointer (some ⟨bb, 0, none⟩), .int .u32 a, .int .i64 s, .int .u32 v, .int .i64 c] w fun e w' => e = .returned .nilIface ∧ BusIs w' base bb sb bp bw bh (N + 2) (upd m a s v) wt (fun x => if x = a / 256 ∧ wt (a / 256) = true then true else ht x) out lamp tr vo vt ∧ Turned w w' bp bh := by
  have hd : dev a s = false := by
    obtain ⟨_, _, hf⟩ := chk_ok hc
    unfold dev; simp; omega
  have hck := isDevice_any a s h0 h1 s0 s1 w
  rw [hd] at hck
  have hst := store_ok B.R a s v h0 h1 v0 v1 hN hc
  have c0 := B.c0
  have BH : Hid (BusIs w base bb sb bp bw bh N m wt ht out lamp tr vo vt) := B
  clear B hd hc hN
  go_enter Tryz.func165, Tryz.ntmps165
  go_wp2_with (first | (go_at_call 218; refine hck.mono ?_; rintro e w' ⟨rfl, rfl⟩) | (go_at_call 11; refine hst.mono ?_; rintro e w2 ⟨rfl, R2, T2⟩))
  go_ret
  exact ⟨rfl, BH.out.own R2 T2, T2⟩
set_option maxRecDepth 100000 in
set_option maxHeartbeats 1000000 in
theorem store_bad (ps pa pf : Addr) (E : Er ps pa pf w) (B : BusIs w base bb sb bp bw bh N m wt ht out lamp tr vo vt) (a s v c : Int) (h0 : 0 ≤ a) (h1 : a < 4294967296) (s0 : -9223372036854775808 ≤ s) (s1 : s ≤ 9223372036854775807) (hc : chk a s ≠ 0) (hd : dev a s = false) :
    Calls Tryz.prog 165 #[.pointer (some ⟨bb, 0, none⟩), .int .u32 a, .int .i64 s, .int .u32 v, .int .i64 c] w fun e w' => e = .returned (.iface 332 (.pointer (some (erA ps pa pf (chk a s))))) ∧ w' = w := by
  have hck := isDevice_any a s h0 h1 s0 s1 w
  rw [hd] at hck
  have hst := store_no ps pa pf E (.pointer (some ⟨sb, 0, none⟩)) a s v h0 h1 s0 s1 hc
  have c0 := B.c0
  clear B hd hc E
  generalize erA ps pa pf (chk a s) = er at *
  go_enter Tryz.func165, Tryz.ntmps165
  go_wp2_with (first | (go_at_call 218; refine hck.mono ?_; rintro e w' ⟨rfl, rfl⟩) | (go_at_call 11; refine hst.mono ?_; rintro e w2 ⟨rfl, rfl⟩))
  go_ret
  exact ⟨rfl, rfl⟩
set_option maxRecDepth 100000 in
set_option maxHeartbeats 1000000 in
theorem load_mem (B : BusIs w base bb sb bp bw bh N m wt ht out lamp tr vo vt) (a s c : Int) (sg : Bool) (h0 : 0 ≤ a) (h1 : a < 4294967296) (s0 : -9223372036854775808 ≤ s) (s1 : s ≤ 9223372036854775807) (hc : chk a s = 0) :
    Calls Tryz.prog 163 #[.pointer (some ⟨bb, 0, none⟩), .int .u32 a, .int .i64 s, .bool sg, .int .i64 c] w fun e w' => e = .returned (.tuple #[.int .u32 (ld m a s sg), .nilIface]) ∧ ∃ n, w' = w.drewN n := by
  have hd : dev a s = false := by
    obtain ⟨_, _, hf⟩ := chk_ok hc
    unfold dev; simp; omega
  have hck := isDevice_any a s h0 h1 s0 s1 w
  rw [hd] at hck
  have hst := load_ok B.R a s sg h0 h1 hc
  have c0 := B.c0
  clear B hd hc
  generalize ld m a s sg = x at *
  go_enter Tryz.func163, Tryz.ntmps163
  go_wp2_with (first | (go_at_call 218; refine hck.mono ?_; rintro e w' ⟨rfl, rfl⟩) | (go_at_call 88; refine hst.mono ?_; rintro e w2 ⟨rfl, n, rfl⟩))
  go_ret2
  exact ⟨rfl, n, rfl⟩
set_option maxRecDepth 100000 in
set_option maxHeartbeats 1000000 in
theorem load_bad (ps pa pf : Addr) (E : Er ps pa pf w) (B : BusIs w base bb sb bp bw bh N m wt ht out lamp tr vo vt) (a s c : Int) (sg : Bool) (h0 : 0 ≤ a) (h1 : a < 4294967296) (s0 : -9223372036854775808 ≤ s) (s1 : s ≤ 9223372036854775807) (hc : chk a s ≠ 0) (hd : dev a s = false) :
    Calls Tryz.prog 163 #[.pointer (some ⟨bb, 0, none⟩), .int .u32 a, .int .i64 s, .bool sg, .int .i64 c] w fun e w' => e = .returned (.tuple #[.int .u32 0, .iface 332 (.pointer (some (erA ps pa pf (chk a s))))]) ∧ w' = w := by
  have hck := isDevice_any a s h0 h1 s0 s1 w
  rw [hd] at hck
  have hst := load_no ps pa pf E (.pointer (some ⟨sb, 0, none⟩)) a s sg h0 h1 s0 s1 hc
  have c0 := B.c0
  clear B hd hc E
  generalize erA ps pa pf (chk a s) = er at *
  go_enter Tryz.func163, Tryz.ntmps163
  go_wp2_with (first | (go_at_call 218; refine hck.mono ?_; rintro e w' ⟨rfl, rfl⟩) | (go_at_call 88; refine hst.mono ?_; rintro e w2 ⟨rfl, rfl⟩))
  go_ret2
  exact ⟨rfl, rfl⟩
theorem ramOf_any (B : BusIs w base bb sb bp bw bh N m wt ht out lamp tr vo vt) : Calls Tryz.prog 10 #[.pointer (some ⟨bb, 0, none⟩)] w fun e w' => e = .returned (.pointer (some ⟨sb, 0, none⟩)) ∧ w' = w := by
  have c0 := B.c0
  clear B
  go_enter Tryz.func10, Tryz.ntmps10
  go_wp2
  go_ret
  exact ⟨rfl, rfl⟩
end
/-- a new bus: its pieces -/
structure NewBus (w : World) (bb sb bp bw bh : Nat) (xs : List Int) : Prop where
  c0 : w.cell? ⟨bb, 0, none⟩ = some (.pointer (some ⟨sb, 0, none⟩))
  c1 : w.cell? ⟨bb, 1, none⟩ = some (.slice none 0 0)
  c2 : w.cell? ⟨bb, 2, none⟩ = some (.int .u32 0)
  c3 : w.cell? ⟨bb, 3, none⟩ = some (.slice none 0 0)
  fz : ∀ j, w.frozen? ⟨bb, j, none⟩ = false
  R : RamIs w sb bp bw bh 64 (mw xs) (fun _ => false) (fun _ => false)
  ns : bb ≠ sb
  np : bb ≠ bp
  nw : bb ≠ bw
  nh : bb ≠ bh
theorem RamIs.lt {w : World} {sb bp bw bh N : Nat} {m : Nat → Int} {wt ht : Int → Bool} (R : RamIs w sb bp bw bh N m wt ht) : sb < w.heap.size ∧ bp < w.heap.size ∧ bw < w.heap.size ∧ bh < w.heap.size :=
  ⟨World.block_lt_of_cell? _ _ R.c0, R.ps.lt, R.ws.lt, R.hs.lt⟩
theorem NewBus.stays {w w' : World} {bb sb bp bw bh : Nat} {xs : List Int} (B : NewBus w bb sb bp bw bh xs) (h : Below w.heap.size w w') : NewBus w' bb sb bp bw bh xs := by
  have hs := h.block bb (World.block_lt_of_cell? _ _ B.c0)
  have c : ∀ (j : Nat) (v : Value), w.cell? ⟨bb, j, none⟩ = some v → w'.cell? ⟨bb, j, none⟩ = some v := fun j v e => (World.cell?_of_block (a := ⟨bb, j, none⟩) hs).trans e
  exact ⟨c _ _ B.c0, c _ _ B.c1, c _ _ B.c2, c _ _ B.c3, fun j => (World.frozen?_of_block (a := ⟨bb, j, none⟩) hs).trans (B.fz j), B.R.stays h (Nat.le_refl _), B.ns, B.np, B.nw, B.nh⟩
theorem NewBus.is {w : World} {bb sb bp bw bh : Nat} {xs : List Int} (B : NewBus w bb sb bp bw bh xs) : BusIs w w.heap.size bb sb bp bw bh 64 (mw xs) (fun _ => false) (fun _ => false) [] 0 [] (.slice none 0 0) (.slice none 0 0) :=
  ⟨B.c0, B.c1, B.c2, B.c3, B.fz, World.ownsRow_nil _ _ _ _, World.ownsRow_nil _ _ _ _, B.R, World.block_lt_of_cell? _ _ B.c0, B.R.lt.1, B.R.lt.2.1, B.R.lt.2.2.1, B.R.lt.2.2.2, B.ns, B.np, B.nw, B.nh, Nat.le_refl _⟩
end Go.Proofs.YtflagpkmebdckaaGreatDoor
/-
  What a bus tells: its trace, its output.
-/
namespace Go.Proofs.YtflagpkmebdckaaGreatDoor
open Go.RowKit Go.Maps
open Num
set_option linter.unusedVariables false
theorem acc_one (tr : List Acc) : ∀ u ∈ tr.flatMap accC, u.oneCell' = true := by
  intro u hu
  obtain ⟨x, _, hx⟩ := List.mem_flatMap.1 hu
  simp [accC] at hx
  rcases hx with rfl | rfl | rfl | rfl <;> rfl
set_option maxRecDepth 100000 in
set_option maxHeartbeats 1000000 in
theorem clone55 {w : World} {base n : Nat} {v : Value} {xs : List Value} (h : w.ownsRow base 187 4 v n xs) (hn : n ≤ 1000) (h1 : ∀ u ∈ xs, u.oneCell' = true) :
    Calls Tryz.prog 104 #[v] w fun e w' => ∃ ao cap, e = .returned (.slice ao n cap) ∧ w'.ownsRow w.heap.size 187 4 (.slice ao n cap) n xs ∧ Below w.heap.size w w' := by
  obtain ⟨i0, hi, hz0, hz1, hz2⟩ := info_parts info55
  have hq : ∀ (w : World) (a : Option Addr) (n c : Nat), (binOp .eql 37 (.slice a n c) (.slice none 0 0)).run Tryz.prog w = .ok (.bool a.isNone) w := fun w a n c => Lib.run_eql_slice_nil w 37 187 a n c 0 0 Tryz.underlying37
  rcases h.2 with ⟨rfl, rfl⟩ | ⟨g, cap, cur, rfl, hb, hg, hnc, hcm, hcs, htake⟩
  · have hx : xs = [] := List.eq_nil_of_length_eq_zero (by simpa using h.1)
    subst hx
    go_enter Tryz.func104, Tryz.ntmps104
    go_wp2
    go_ret
    exact ⟨none, 0, rfl, World.ownsRow_nil _ _ _ _, Below.refl _ _⟩
  · have hown : (w.alloc (.cells #[] 187)).ownsRow w.heap.size 187 4 (.slice (some ⟨w.heap.size, 0, none⟩) 0 0) 0 [] := World.ownsRow_made w #[] 0 (Nat.le_refl _) (by unfold maxLen; omega) rfl
    have hnews := (h.alloc (.cells #[] 187)).cells (g := g) rfl
    have hlen := h.1
    clear h hcs htake hg hcm
    go_enter Tryz.func104, Tryz.ntmps104
    go_wp2_with (at_builtin; refine wpList_append_own _ rfl _ _ 37 rfl w.heap.size 187 i0 (.agg #[.int .i64 0, .bool false, .int .u32 0, .int .u32 0]) 4 24 Tryz.underlying37 hi hz0 hz1 hz2 rfl (by decide) (.slice (some ⟨w.heap.size, 0, none⟩) 0 0) 0 [] rfl hown ⟨g, 0, none⟩ n cap xs rfl hlen hnews h1 (by unfold maxLen; omega) (by omega) (by simp) ?_; intro v' w1 ho hg1 hm)
    go_ret
    rw [Nat.zero_add, List.nil_append] at ho
    have hb1 : Below w.heap.size w w1 := ⟨hg1.os, hg1.tape, hg1.output, by have := hg1.size; simp at this; omega, fun k hk => (hg1.block k (by simp; omega) (by simp [Value.ownBlock]; omega)).trans (Below.heap_alloc w _ k hk)⟩
    rcases ho.2 with ⟨e, rfl⟩ | ⟨g', cap', cur', rfl, _⟩
    · subst e
      exact ⟨none, 0, rfl, ho, hb1⟩
    · exact ⟨_, cap', rfl, ho, hb1⟩
section
variable {w : World} {base bb sb bp bw bh N : Nat} {m : Nat → Int} {wt ht : Int → Bool} {out : List Int} {lamp : Int} {tr : List Acc} {vo vt : Value}
/-- the output as a text -/
def outS (out : List Int) : ByteArray := strOfNums out
theorem outC_get (out : List Int) (i : Nat) (h : i < out.length) : (outC out)[i]? = some (.int .u8 (out.getD i 0)) := by
  simp [outC, List.getElem?_map, List.getD, List.getElem?_eq_getElem h]
end
end Go.Proofs.YtflagpkmebdckaaGreatDoor
/-
  The walk of BusApart.
-/
namespace Go.Proofs.YtflagpkmebdckaaGreatDoor
open Go.RowKit Go.Maps
open Num
set_option linter.unusedVariables false
theorem new_ex2 {w : World} {v : Value} {xs : List Int} (X : WordsIn w v xs) (hx : xs.length ≤ 5000) :
    Calls Tryz.prog 35 #[v] w fun e w' => ∃ sb bp bw bh : Nat, e = .returned (.pointer (some ⟨sb, 0, none⟩)) ∧ RamIs w' sb bp bw bh 64 (mw xs) (fun _ => false) (fun _ => false) ∧ Below w.heap.size w w' ∧ w.heap.size ≤ sb ∧ w.heap.size ≤ bp ∧ w.heap.size ≤ bw ∧ w.heap.size ≤ bh :=
  (new_any X hx).mono fun e w' ⟨h1, h2, h3⟩ => ⟨_, _, _, _, h1, h2, h3, by omega, by omega, by omega, by omega⟩
end Go.Proofs.YtflagpkmebdckaaGreatDoor
/-
  What holds between the rounds of BusApart.
-/
namespace Go.Proofs.YtflagpkmebdckaaGreatDoor
open Go.RowKit Go.Maps
open Num
set_option linter.unusedVariables false
theorem Er.stays {ps pa pf : Addr} {w w' : World} (E : Er ps pa pf w) (h : Below w.heap.size w w') : Er ps pa pf w' :=
  ⟨by rw [h.cell (World.block_lt_of_cell? _ _ E.s)]; exact E.s, by rw [h.cell (World.block_lt_of_cell? _ _ E.a)]; exact E.a, by rw [h.cell (World.block_lt_of_cell? _ _ E.f)]; exact E.f⟩
theorem Er.below {ps pa pf : Addr} {w w' : World} (E : Er ps pa pf w) (h : Below w.heap.size w w') : Er ps pa pf w' := E.stays h
/-- no page -/
def F0 : Int → Bool := fun _ => false
section
variable {w wr : World} {base bb sb bp bw bh sb' bp' bw' bh' : Nat} {j N N' : Nat} {m : Nat → Int} {out : List Int} {lamp : Int} {tr : List Acc} {vo vt : Value}
theorem F0_hit (p : Int) : (fun x => if x = p ∧ F0 p = true then true else F0 x) = F0 := by
  funext x; simp [F0]
end
end Go.Proofs.YtflagpkmebdckaaGreatDoor
/-
  What the statement asks of an error, of two traces; a bus of the document's, made.
-/
namespace Go.Proofs.YtflagpkmebdckaaGreatDoor
open Go.RowKit Go.Maps
open Num
set_option linter.unusedVariables false
theorem acc_get (tr : List Acc) (i j : Nat) (hi : i < tr.length) (hj : j < 4) : (tr.flatMap accC)[i * 4 + j]? = (accC tr[i])[j]? := by
  induction tr generalizing i with
  | nil => simp at hi
  | cons x tr ih =>
    rw [List.flatMap_cons]
    have hl : (accC x).length = 4 := rfl
    cases i with
    | zero => rw [Nat.zero_mul, Nat.zero_add, List.getElem?_append_left (by rw [hl]; exact hj)]; rfl
    | succ i =>
      rw [List.getElem?_append_right (by rw [hl]; omega), hl, show (i + 1) * 4 + j - 4 = i * 4 + j by omega, ih i (by simp at hi; omega)]
      rfl
set_option maxRecDepth 100000 in
set_option maxHeartbeats 2000000 in
theorem sameTrace_any {w : World} {b1 b2 : Nat} {v1 v2 : Value} {tr : List Acc} (o1 : w.ownsRow b1 187 4 v1 tr.length (tr.flatMap accC)) (o2 : w.ownsRow b2 187 4 v2 tr.length (tr.flatMap accC)) (hn : tr.length ≤ 1000) :
    Calls Tryz.prog 55 #[v1, v2] w fun e w' => e = .returned (.bool true) ∧ ∃ n, w' = w.drewN n := by
  obtain ⟨a1, c1, hv1, h1⟩ : ∃ a1 c1, v1 = .slice a1 tr.length c1 ∧ (0 < tr.length → ∃ g, a1 = some ⟨g, 0, none⟩ ∧ tr.length ≤ c1 ∧ ∀ i j u, (accC (tr.getD i ⟨0, false, 0, 0⟩))[j]? = some u → i < tr.length → j < 4 → w.cell? ⟨g, i * 4 + j, none⟩ = some u) := by
    rcases o1.2 with ⟨e, h⟩ | ⟨g, cap, cur, e, _, _, hc, _⟩
    · exact ⟨none, 0, by rw [e, h], fun h' => by omega⟩
    · refine ⟨_, cap, e, fun _ => ⟨g, rfl, hc, fun i j u hu hi hj => ?_⟩⟩
      have := o1.cells (g := g) (by rw [e]; rfl) (i * 4 + j) u (by rw [acc_get tr i j hi hj, ← hu]; simp [List.getD, hi])
      rwa [add_lit] at this
  obtain ⟨a2, c2, hv2, h2⟩ : ∃ a2 c2, v2 = .slice a2 tr.length c2 ∧ (0 < tr.length → ∃ g, a2 = some ⟨g, 0, none⟩ ∧ tr.length ≤ c2 ∧ ∀ i j u, (accC (tr.getD i ⟨0, false, 0, 0⟩))[j]? = some u → i < tr.length → j < 4 → w.cell? ⟨g, i * 4 + j, none⟩ = some u) := by
    rcases o2.2 with ⟨e, h⟩ | ⟨g, cap, cur, e, _, _, hc, _⟩
    · exact ⟨none, 0, by rw [e, h], fun h' => by omega⟩
    · refine ⟨_, cap, e, fun _ => ⟨g, rfl, hc, fun i j u hu hi hj => ?_⟩⟩
      have := o2.cells (g := g) (by rw [e]; rfl) (i * 4 + j) u (by rw [acc_get tr i j hi hj, ← hu]; simp [List.getD, hi])
      rwa [add_lit] at this
  subst hv1 hv2
  clear o1 o2
  generalize tr.length = n at *
  have H1 : Hid _ := h1
  have H2 : Hid _ := h2
  clear h1 h2
  have hn' : (n : Int) ≤ 1000 := by omega
  go_enter Tryz.func55, Tryz.ntmps55
  go_wp2_with fail
  go_loopw [5] (fun i wr => ∃ j q : Nat, j ≤ n ∧ i = .int .i64 j ∧ wr = w.drewN q) (fun i _ => n - (intOf i).toNat)
  case atStart => exact ⟨0, 0, Nat.zero_le _, rfl, rfl⟩
  case round =>
    obtain ⟨j, q, hj, rfl, rfl⟩ := hrel
    by_cases hlt : j < n
    · have hlt' : (j : Int) < n := by omega
      obtain ⟨g1, rfl, k1, f1⟩ := H1.out (by omega)
      obtain ⟨g2, rfl, k2, f2⟩ := H2.out (by omega)
      have p0 := f1 j 0 _ rfl hlt (by omega)
      have p1 := f1 j 1 _ rfl hlt (by omega)
      have p2 := f1 j 2 _ rfl hlt (by omega)
      have p3 := f1 j 3 _ rfl hlt (by omega)
      have r0 := f2 j 0 _ rfl hlt (by omega)
      have r1 := f2 j 1 _ rfl hlt (by omega)
      have r2 := f2 j 2 _ rfl hlt (by omega)
      have r3 := f2 j 3 _ rfl hlt (by omega)
      rw [Nat.add_zero] at p0 r0
      clear f1 f2
      generalize tr.getD j ⟨0, false, 0, 0⟩ = y at *
      go_wp2_with fail
      go_quiet (fail)
      go_wp2
      go_roundw
      case rel => exact ⟨j + 1, q + nq, by omega, by go_num, by simp⟩
      case measure => simp [intOf]; omega
    · have hlt' : ¬ (j : Int) < n := by omega
      go_wp2
      go_ret
      exact ⟨rfl, q, rfl⟩
end Go.Proofs.YtflagpkmebdckaaGreatDoor
/-
  Functions of the document's answer: shifts, parts, bytes, the errors of an access.
-/
namespace Go.Proofs.YtflagpkmebdckaaGreatDoor
open Go.RowKit
open Num
set_option linter.unusedVariables false
set_option maxRecDepth 100000 in
set_option maxHeartbeats 1000000 in
theorem devErr_any (a s : Int) (h0 : 16384 ≤ a) (h1 : a < 4294967296) (s0 : -9223372036854775808 ≤ s) (s1 : s ≤ 9223372036854775807) (w : World) : Calls Tryz.prog 243 #[.int .u32 a, .int .i64 s] w fun e w' => e = .returned (.int .i64 (if dev a s = true then 0 else rc a s)) ∧ w' = w := by
  have hre := reach_any a s (by omega) h1 s0 s1 w
  have HR : Hid (rc a s = if s ≠ 1 ∧ s ≠ 2 ∧ s ≠ 4 then 3 else if a % s ≠ 0 then 9 else if 16384 ≤ a then 10 else 0) := rc_eq a s
  by_cases hc : rc a s = 10
  · have hc' : (rc a s != 10) = false := by simpa using hc
    have hsm : (s = 1 ∨ s = 2 ∨ s = 4) ∧ a % s = 0 := by
      have := HR.out; rw [hc] at this
      split at this
      · omega
      · split at this
        · omega
        · exact ⟨by omega, by omega⟩
    rw [hc] at hre
    cases hd : dev a s with
    | true =>
      rw [if_pos rfl]
      unfold dev at hd; simp at hd
      obtain ⟨rfl, hm, h2, h3⟩ := hd
      clear hc HR hsm hm hc'
      go_enter Tryz.func243, Tryz.ntmps243
      go_wp2_with (go_at_call 44; refine hre.mono ?_; rintro e w' ⟨rfl, rfl⟩)
      go_ret
      exact ⟨rfl, rfl⟩
    | false =>
      rw [if_neg (by decide), hc]
      by_cases h4 : s = 4
      · have e4 : (s == 4) = true := by simpa using h4
        subst h4
        have hm : a % 4 = 0 := hsm.2
        unfold dev at hd; simp at hd
        have hd := hd hm
        clear hc HR hsm hc' hm
        by_cases hl : 65536 ≤ a
        · have hh : ¬ a ≤ 65548 := by have := hd hl; omega
          clear hd
          go_enter Tryz.func243, Tryz.ntmps243
          go_wp2_with (go_at_call 44; refine hre.mono ?_; rintro e w' ⟨rfl, rfl⟩)
          go_ret
          exact ⟨rfl, rfl⟩
        · clear hd
          go_enter Tryz.func243, Tryz.ntmps243
          go_wp2_with (go_at_call 44; refine hre.mono ?_; rintro e w' ⟨rfl, rfl⟩)
          go_ret
          exact ⟨rfl, rfl⟩
      · have e4 : (s == 4) = false := by simpa using h4
        clear hc HR hsm hc' hd h4
        go_enter Tryz.func243, Tryz.ntmps243
        go_wp2_with (go_at_call 44; refine hre.mono ?_; rintro e w' ⟨rfl, rfl⟩)
        go_ret
        exact ⟨rfl, rfl⟩
  · have hc' : (rc a s != 10) = true := by simpa using hc
    have hd : dev a s = false := by
      cases hd : dev a s with
      | false => rfl
      | true =>
        unfold dev at hd; simp at hd
        obtain ⟨rfl, hm, h2, h3⟩ := hd
        exact absurd (by rw [HR.out, if_neg (by omega), if_neg (by omega), if_pos h0]) hc
    rw [if_neg (by rw [hd]; decide)]
    clear HR hd hc
    generalize rc a s = r at *
    go_enter Tryz.func243, Tryz.ntmps243
    go_wp2_with (go_at_call 44; refine hre.mono ?_; rintro e w' ⟨rfl, rfl⟩)
    go_ret
    exact ⟨rfl, rfl⟩
end Go.Proofs.YtflagpkmebdckaaGreatDoor
/-
  What the verifier's matches answers at any row of the document's table: whether the fields that the word has make it again.
-/
namespace Go.Proofs.YtflagpkmebdckaaGreatDoor.K
open Go.RowKit Go.Extern.Stop Go.Stop Go.Extern
open Num Tab Fm
set_option linter.unusedVariables false
theorem mn_0 : ∀ k, k < 54 → (hasI (sh k) || hasJ (sh k)) = true → mn k = 0 := by decide
set_option maxHeartbeats 4000000 in
theorem matches_any (k : Nat) (hk : k < 54) (g1 : 1 ≤ k) (v : Int) (h0 : 0 ≤ v) (h1 : v < 4294967296) (w : World) :
    Calls Tryz.prog 175 #[.int .u32 v, .agg #[.string ⟨(nme k).toArray⟩, .int .i64 (mj k), .int .i64 (mn k), .string ⟨(flds k).toArray⟩, .string ⟨(ordr k).toArray⟩, .string ⟨(kindR k).toArray⟩]] w fun e w' => e = .returned (.bool (decide (xw k v = v))) ∧ Below w.heap.size w w' := by
  have hf := fit_all k hk
  have hn := sh_all k hk
  have h45 := sh_45 k hk
  have hm := mn_0 k hk
  have hB := is_xw k hk g1 v h0 h1
  have hfl : flds k = lt (sh k) := rfl
  rw [hfl]
  unfold isB at hB
  unfold fitB at hf
  generalize decide (xw k v = v) = R at hB ⊢
  generalize fst k = f at hf
  generalize mj k = M at hf hB ⊢
  generalize mn k = N at hf hm hB ⊢
  generalize ByteArray.mk (nme k).toArray = x
  generalize ByteArray.mk (ordr k).toArray = y
  generalize ByteArray.mk (kindR k).toArray = z
  generalize sh k = n at *
  have hc : n = 0 ∨ n = 1 ∨ n = 2 ∨ n = 3 ∨ n = 4 ∨ n = 5 ∨ n = 6 ∨ n = 7 ∨ n = 8 ∨ n = 9 ∨ n = 10 ∨ n = 11 := by omega
  clear hn hfl
  have fin : ∀ {a b : Bool} {args : Array Value}, a = b → Calls Tryz.prog 175 args w (fun e w' => e = .returned (.bool a) ∧ Below w.heap.size w w') → Calls Tryz.prog 175 args w (fun e w' => e = .returned (.bool b) ∧ Below w.heap.size w w') := fun e h => by rw [← e]; exact h
  rcases hc with rfl | rfl | rfl | rfl | rfl | rfl | rfl | rfl | rfl | rfl | rfl | rfl
  · by_cases e45 : k = 45
    · simp [hasI, hasJ, lt, ltL, e45] at hf
      obtain ⟨rfl, hx0, hx1, rfl, hx2⟩ := hf
      simp [hasS, hasT, hasD, hasA, hasI, hasJ, lt, ltL] at hB
      refine fin ?_ (match_e x y z v h0 h1 w)
      rw [← hB] <;> (rw [Bool.eq_iff_iff]; simp only [decide_eq_true_eq, Bool.and_eq_true] <;> omega)
    · simp [hasI, hasJ, lt, ltL, e45] at hf
      obtain ⟨rfl, hx⟩ := hf
      simp [hasS, hasT, hasD, hasA, hasI, hasJ, lt, ltL] at hB
      refine fin ?_ (match_0 x y z N v h0 h1 w)
      rw [← hB] <;> (rw [Bool.eq_iff_iff]; simp only [decide_eq_true_eq, Bool.and_eq_true] <;> omega)
  · have e45 : ¬ k = 45 := fun e => by have := h45 e; omega
    simp [hasI, hasJ, lt, ltL, e45] at hf
    obtain ⟨rfl, hx⟩ := hf
    simp [hasS, hasT, hasD, hasA, hasI, hasJ, lt, ltL] at hB
    refine fin ?_ (match_1 x y z N v h0 h1 w)
    rw [← hB] <;> (rw [Bool.eq_iff_iff]; simp only [decide_eq_true_eq, Bool.and_eq_true] <;> omega)
  · have e45 : ¬ k = 45 := fun e => by have := h45 e; omega
    simp [hasI, hasJ, lt, ltL, e45] at hf
    obtain ⟨rfl, hx⟩ := hf
    simp [hasS, hasT, hasD, hasA, hasI, hasJ, lt, ltL] at hB
    refine fin ?_ (match_2 x y z N v h0 h1 w)
    rw [← hB] <;> (rw [Bool.eq_iff_iff]; simp only [decide_eq_true_eq, Bool.and_eq_true] <;> omega)
  · have e45 : ¬ k = 45 := fun e => by have := h45 e; omega
    simp [hasI, hasJ, lt, ltL, e45] at hf
    obtain ⟨rfl, hx⟩ := hf
    simp [hasS, hasT, hasD, hasA, hasI, hasJ, lt, ltL] at hB
    refine fin ?_ (match_3 x y z N v h0 h1 w)
    rw [← hB] <;> (rw [Bool.eq_iff_iff]; simp only [decide_eq_true_eq, Bool.and_eq_true] <;> omega)
  · have e45 : ¬ k = 45 := fun e => by have := h45 e; omega
    simp [hasI, hasJ, lt, ltL, e45] at hf
    obtain ⟨rfl, hx⟩ := hf
    simp [hasS, hasT, hasD, hasA, hasI, hasJ, lt, ltL] at hB
    refine fin ?_ (match_4 x y z N v h0 h1 w)
    rw [← hB] <;> (rw [Bool.eq_iff_iff]; simp only [decide_eq_true_eq, Bool.and_eq_true] <;> omega)
  · have e45 : ¬ k = 45 := fun e => by have := h45 e; omega
    simp [hasI, hasJ, lt, ltL, e45] at hf
    obtain ⟨rfl, hx⟩ := hf
    simp [hasS, hasT, hasD, hasA, hasI, hasJ, lt, ltL] at hB
    refine fin ?_ (match_5 x y z N v h0 h1 w)
    rw [← hB] <;> (rw [Bool.eq_iff_iff]; simp only [decide_eq_true_eq, Bool.and_eq_true] <;> omega)
  · have e45 : ¬ k = 45 := fun e => by have := h45 e; omega
    simp [hasI, hasJ, lt, ltL, e45] at hf
    obtain ⟨rfl, hx⟩ := hf
    simp [hasS, hasT, hasD, hasA, hasI, hasJ, lt, ltL] at hB
    refine fin ?_ (match_6 x y z N v h0 h1 w)
    rw [← hB] <;> (rw [Bool.eq_iff_iff]; simp only [decide_eq_true_eq, Bool.and_eq_true] <;> omega)
  · have hN : N = 0 := hm (by decide)
    subst hN
    simp [hasI, hasJ, lt, ltL] at hf
    obtain ⟨hx, hx1, hx2, hx3⟩ := hf
    have hM0 : M ≠ 0 := by omega
    simp [hasS, hasT, hasD, hasA, hasI, hasJ, lt, ltL, hM0, hx3] at hB
    refine fin ?_ (match_7 x y z M hM0 hx3 v h0 h1 w)
    rw [← hB] <;> (rw [Bool.eq_iff_iff]; simp only [decide_eq_true_eq, Bool.and_eq_true] <;> omega)
  · have hN : N = 0 := hm (by decide)
    subst hN
    simp [hasI, hasJ, lt, ltL] at hf
    obtain ⟨hx, hx1, hx2, hx3⟩ := hf
    have hM0 : M ≠ 0 := by omega
    simp [hasS, hasT, hasD, hasA, hasI, hasJ, lt, ltL, hM0, hx3] at hB
    refine fin ?_ (match_8 x y z M hM0 hx3 v h0 h1 w)
    rw [← hB] <;> (rw [Bool.eq_iff_iff]; simp only [decide_eq_true_eq, Bool.and_eq_true] <;> omega)
  · have hN : N = 0 := hm (by decide)
    subst hN
    simp [hasI, hasJ, lt, ltL] at hf
    obtain ⟨hx, hx1, hx2, hx3⟩ := hf
    have hM0 : M ≠ 0 := by omega
    simp [hasS, hasT, hasD, hasA, hasI, hasJ, lt, ltL, hM0, hx3] at hB
    refine fin ?_ (match_9 x y z M hM0 hx3 v h0 h1 w)
    rw [← hB] <;> (rw [Bool.eq_iff_iff]; simp only [decide_eq_true_eq, Bool.and_eq_true] <;> omega)
  · have hN : N = 0 := hm (by decide)
    subst hN
    simp [hasI, hasJ, lt, ltL] at hf
    obtain ⟨hx, hx1, hx2, hx3⟩ := hf
    have hM0 : M ≠ 0 := by omega
    simp [hasS, hasT, hasD, hasA, hasI, hasJ, lt, ltL, hM0, hx3] at hB
    refine fin ?_ (match_10 x y z M hM0 hx3 v h0 h1 w)
    rw [← hB] <;> (rw [Bool.eq_iff_iff]; simp only [decide_eq_true_eq, Bool.and_eq_true] <;> omega)
  · have e45 : ¬ k = 45 := fun e => by have := h45 e; omega
    simp [hasI, hasJ, lt, ltL, e45] at hf
    obtain ⟨rfl, hx, hx1, hx2, hx3⟩ := hf
    simp [hasS, hasT, hasD, hasA, hasI, hasJ, lt, ltL, hx2] at hB
    refine fin ?_ (match_11 x y z N hx2 v h0 h1 w)
    rw [← hB] <;> (rw [Bool.eq_iff_iff]; simp only [decide_eq_true_eq, Bool.and_eq_true] <;> omega)
end Go.Proofs.YtflagpkmebdckaaGreatDoor.K
/-
  placed.
-/
namespace Go.Proofs.YtflagpkmebdckaaGreatDoor
open Go.RowKit Go.Maps
open Num
set_option linter.unusedVariables false
end Go.Proofs.YtflagpkmebdckaaGreatDoor
/-
  sameEnd.
-/
namespace Go.Proofs.YtflagpkmebdckaaGreatDoor
open Go.RowKit Go.Maps
open Num
set_option linter.unusedVariables false
theorem wpList_loadT {ops : Array Oper} {Q : Exit → Act → World → Prop} {a : Act} {w : World} {rest : List Oper} {o : Oper} (t : TypeId) (x : Operand) (hop : o.op = .load t x) (sb : Nat) (v : Value) (hgd : Region.wanted o (yielded ops a.tmps) = true) (hx : a.eval x = .pointer (some ⟨sb, 0, none⟩)) (hl : (loadVar t ⟨sb, 0, none⟩).run Tryz.prog w = .ok v w)
    (h : wpList Tryz.prog ops Q rest (a.put o.dst v) w) : wpList Tryz.prog ops Q (o :: rest) a w :=
  wpList_step fun K hK => by
    rw [if_pos hgd]
    unfold Oper.wp
    rw [exec_loadT hop hx w hl, Oper.upon_value]
    exact hK _ _ h
/-- two ends that no one tells apart, where traps are alike wherever they are -/
def OzSame : Oz → Oz → Prop
  | .trap _, .trap _ => True
  | .leave M, .leave N => M.lv = N.lv ∧ (∀ i, i < 4096 → M.m i = N.m i) ∧ ∀ r : Nat, 1 ≤ r → r ≤ 33 → M.x r = N.x r
  | .fell, .fell => True
  | _, _ => False
/-- what is told of an end: whether it trapped, a state, words -/
theorem stF_same {f : Nat → Value} {M N : Mz} {many ct : Int} (h1 : M.lv = N.lv) (h2 : ∀ r : Nat, 1 ≤ r → r ≤ 33 → M.x r = N.x r) : ∀ j, j < 43 → stF f M many ct j = stF f N many ct j := by
  intro j hj
  unfold stF
  by_cases h : 1 ≤ j ∧ j < 34
  · rw [if_pos h, if_pos h, h2 j h.1 (by omega)]
  · rw [if_neg h, if_neg h, h1]
/-- a state behind a run, as a state -/
def lfS (S : St) (M : Mz) (many : Int) : St := { S with r := fun j => if 1 ≤ j then M.x j else S.r j, hi := M.x 32, lo := M.x 33, pc := M.lv, nx := lo (M.lv + 4), ct := S.ct + many }
theorem stF_st (S : St) (M : Mz) (many : Int) : ∀ j, j < 43 → stV (lfS S M many) j = stF (stV S) M many S.ct j := by
  intro j hj
  by_cases h0 : j = 0
  · subst h0; rfl
  · by_cases h1 : j < 34
    · have e : stF (stV S) M many S.ct j = .int .u32 (M.x j) := by unfold stF; rw [if_pos (by omega)]
      rw [e]
      unfold stV lfS
      by_cases h : j < 32
      · rw [if_pos h]; show Value.int .u32 (if 1 ≤ j then M.x j else S.r j) = _; rw [if_pos (by omega)]
      · rw [if_neg h]
        by_cases h2 : j = 32
        · rw [if_pos h2, h2]
        · rw [if_neg h2, if_pos (by omega)]; rw [show j = 33 by omega]
    · have hc : j = 34 ∨ j = 35 ∨ j = 36 ∨ j = 37 ∨ j = 38 ∨ j = 39 ∨ j = 40 ∨ j = 41 ∨ j = 42 := by omega
      rcases hc with rfl | rfl | rfl | rfl | rfl | rfl | rfl | rfl | rfl <;> rfl
/-- the end's own words: trap, a state, memory -/
def ozT : Oz → Bool
  | .trap _ => true
  | _ => false
def ozS (S : St) (many : Int) : Oz → St
  | .leave M => lfS S M many
  | _ => S
def ozM (m : Nat → Int) : Oz → (Nat → Int)
  | .leave M => M.m
  | _ => m
theorem OzSame.told {S : St} {many : Int} {m : Nat → Int} {a b : Oz} (h : OzSame a b) : ozT a = ozT b ∧ stA (ozS S many a) = stA (ozS S many b) ∧ ∀ i, i < 4096 → ozM m a i = ozM m b i := by
  cases a <;> cases b <;> simp only [OzSame] at h
  · exact ⟨rfl, rfl, fun _ _ => rfl⟩
  · obtain ⟨h1, h2, h3⟩ := h
    refine ⟨rfl, stA_congr (fun j hj => ?_), h2⟩
    show stV (lfS S _ many) j = stV (lfS S _ many) j
    rw [stF_st _ _ _ j hj, stF_st _ _ _ j hj]
    exact stF_same h1 h3 j hj
  · exact ⟨rfl, rfl, fun _ _ => rfl⟩
end Go.Proofs.YtflagpkmebdckaaGreatDoor
