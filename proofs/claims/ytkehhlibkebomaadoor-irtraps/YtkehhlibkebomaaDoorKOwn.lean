/-
  Memory as package ram holds it: three maps behind a struct's pointer: what they are good for, in one word.
-/
import Derived.Maps.OwnSet
import Derived.Laws.CopyOwn
import Derived.Great.Walk
import Derived.Test.YtkehhlibkebomaaDoorProg
import Derived.Ground.GgzProg
import Derived.Ground.SlgmProg
import Derived.WalkKit
import Derived.Shelf.SlIterI.Nil
import Derived.Shelf.SortM.Plain
import Derived.Shelf.SortM.SortNone
import Derived.Test.YtkehhlibkebomaaDoorKPure
namespace Go.Proofs.YtkehhlibkebomaaDoor
open Go.RowKit Go.Maps
open Num
set_option linter.unusedVariables false
theorem law3 : Keyed Tryd.prog 3 := int_keyed Tryd.underlying3
/-- an element, as it is -/
def heldE (v : Value) : Option (DataW Value × List MemPlace) := some (.held v, [])
/-- a page's cells -/
def pgL (m : Nat → Int) (n : Nat) : List Value := (List.range 64).map fun i => .int .u32 (m (64 * n + i))
def pgA (m : Nat → Int) (n : Nat) : Array Value := (pgL m n).toArray
def zeroPg : Array Value := pgA (fun _ => 0) 0
theorem pgL_len (m : Nat → Int) (n : Nat) : (pgL m n).length = 64 := by simp [pgL]
theorem pgA_size (m : Nat → Int) (n : Nat) : (pgA m n).size = 64 := by simp [pgA, pgL]
theorem pgL_get (m : Nat → Int) (n i : Nat) (h : i < 64) : (pgL m n)[i]? = some (.int .u32 (m (64 * n + i))) := by
  simp [pgL, List.getElem?_map, List.getElem?_range h]
theorem pgA_get (m : Nat → Int) (n i : Nat) (h : i < 64) : (pgA m n)[i]? = some (.int .u32 (m (64 * n + i))) := by
  unfold pgA; rw [List.getElem?_toArray]; exact pgL_get m n i h
theorem pgA_one (m : Nat → Int) (n : Nat) : (pgA m n).all (·.oneCell') = true := by
  rw [Array.all_eq_true_iff_forall_mem]
  intro x hx
  simp only [pgA, pgL, List.mem_toArray, List.mem_map] at hx
  obtain ⟨i, _, rfl⟩ := hx
  rfl
theorem pgL_one (m : Nat → Int) (n : Nat) : ∀ u ∈ pgL m n, u.oneCell' = true := by
  intro x hx
  simp only [pgL, List.mem_map] at hx
  obtain ⟨i, _, rfl⟩ := hx
  rfl
theorem pgL_congr {m m' : Nat → Int} {n n' : Nat} (h : ∀ i, i < 64 → m (64 * n + i) = m' (64 * n' + i)) : pgL m n = pgL m' n' := by
  unfold pgL
  apply List.map_congr_left
  intro i hi
  rw [h i (List.mem_range.1 hi)]
theorem pgA_congr {m m' : Nat → Int} {n n' : Nat} (h : ∀ i, i < 64 → m (64 * n + i) = m' (64 * n' + i)) : pgA m n = pgA m' n' := by
  unfold pgA; rw [pgL_congr h]
theorem zero61 (w : World) : (zeroValue 69).run Tryd.prog w = .ok (.agg zeroPg) w := by kernel_rfl
theorem zero64 (w : World) : (zeroValue 78).run Tryd.prog w = .ok (.agg #[]) w := by kernel_rfl
theorem info61 : (Tryd.prog.info? 69).map (·.size) = some 64 := by kernel_rfl
theorem info23 : (Tryd.prog.info? 23).map (fun i => (i.zero, i.size, i.bytes)) = some (some (.int .u32 0), 1, 4) := by kernel_rfl
theorem size23 : (Tryd.prog.info? 23).map (·.size) = some 1 := by kernel_rfl
/-- the pages in a map -/
def PagesAt (w : World) (b N : Nat) (m : Nat → Int) : Prop := ∃ D : DataW Value, w.ownsMap Tryd.prog 3 heldE b N D ∧ ∀ n : Nat, n < 64 → D.atKey (.int .i64 n) (.held (.agg zeroPg)) = .held (.agg (pgA m n))
/-- a set of pages -/
def SetAt (w : World) (b N : Nat) (s : Int → Bool) : Prop := ∃ D : DataW Unit, w.ownsMap Tryd.prog 3 unitElem b N D ∧ ∀ x : Int, Maps.has D (.int .i64 x) = s x
theorem PagesAt.lt {w : World} {b N : Nat} {m : Nat → Int} (h : PagesAt w b N m) : b < w.heap.size := let ⟨_, h, _⟩ := h; h.lt
theorem SetAt.lt {w : World} {b N : Nat} {s : Int → Bool} (h : SetAt w b N s) : b < w.heap.size := let ⟨_, h, _⟩ := h; h.lt
theorem PagesAt.kept {w w' : World} {b N : Nat} {m : Nat → Int} {row : Option Nat} (h : PagesAt w b N m) (hg : w.grownBy w' row) (hne : some b ≠ row) : PagesAt w' b N m :=
  let ⟨D, h1, h2⟩ := h; ⟨D, h1.kept hg hne, h2⟩
theorem SetAt.kept {w w' : World} {b N : Nat} {s : Int → Bool} {row : Option Nat} (h : SetAt w b N s) (hg : w.grownBy w' row) (hne : some b ≠ row) : SetAt w' b N s :=
  let ⟨D, h1, h2⟩ := h; ⟨D, h1.kept hg hne, h2⟩
theorem PagesAt.mono {w : World} {b N N' : Nat} {m : Nat → Int} (h : PagesAt w b N m) (hn : N ≤ N') : PagesAt w b N' m :=
  let ⟨D, h1, h2⟩ := h; ⟨D, h1.mono hn, h2⟩
theorem SetAt.mono {w : World} {b N N' : Nat} {s : Int → Bool} (h : SetAt w b N s) (hn : N ≤ N') : SetAt w b N' s :=
  let ⟨D, h1, h2⟩ := h; ⟨D, h1.mono hn, h2⟩
theorem grown_of_below {B : Nat} {w w' : World} (h : Below B w w') (hB : w.heap.size ≤ B) : w.grownBy w' none :=
  ⟨h.os, h.tape, h.output, h.size, fun k hk _ => h.block k (Nat.lt_of_lt_of_le hk hB)⟩
/-- block sb is a Ram: its words, the pages that are watched, those that were hit -/
structure RamIs (w : World) (sb bp bw bh N : Nat) (m : Nat → Int) (wt ht : Int → Bool) : Prop where
  c0 : w.cell? ⟨sb, 0, none⟩ = some (.map (some bp))
  c1 : w.cell? ⟨sb, 1, none⟩ = some (.map (some bw))
  c2 : w.cell? ⟨sb, 2, none⟩ = some (.map (some bh))
  pw : bp ≠ bw
  ph : bp ≠ bh
  wh : bw ≠ bh
  sp : sb ≠ bp
  sh : sb ≠ bh
  ps : PagesAt w bp N m
  ws : SetAt w bw N wt
  hs : SetAt w bh N ht
  mb : ∀ i, 0 ≤ m i ∧ m i < 4294967296
theorem RamIs.grow {w w' : World} {sb bp bw bh N : Nat} {m : Nat → Int} {wt ht : Int → Bool} (R : RamIs w sb bp bw bh N m wt ht) (hg : w.grownBy w' none) : RamIs w' sb bp bw bh N m wt ht :=
  ⟨hg.cell R.c0 (by simp), hg.cell R.c1 (by simp), hg.cell R.c2 (by simp), R.pw, R.ph, R.wh, R.sp, R.sh, R.ps.kept hg (by simp), R.ws.kept hg (by simp), R.hs.kept hg (by simp), R.mb⟩
theorem RamIs.stays {B : Nat} {w w' : World} {sb bp bw bh N : Nat} {m : Nat → Int} {wt ht : Int → Bool} (R : RamIs w sb bp bw bh N m wt ht) (h : Below B w w') (hB : w.heap.size ≤ B) : RamIs w' sb bp bw bh N m wt ht :=
  R.grow (grown_of_below h hB)
theorem wf_i64 {n : Int} (h0 : -9223372036854775808 ≤ n) (h1 : n ≤ 9223372036854775807) : (Lit.int .i64 n).wf = true := by
  simp [Lit.wf, IntKind.min, IntKind.max, IntKind.signed, IntKind.bits]; omega
theorem key3 {n : Int} (h0 : -9223372036854775808 ≤ n) (h1 : n ≤ 9223372036854775807) : keyOf Tryd.prog 3 (.int .i64 n) = some (.int .i64 n) := keyOf_int_mk Tryd.underlying3 (wf_i64 h0 h1)
/-- a page, looked up -/
theorem PagesAt.look {w : World} {b N : Nat} {m : Nat → Int} (h : PagesAt w b N m) (n : Nat) (hn : n < 64) : (Instr.lookup 70 (.map (some b)) (.int .i64 n) false).run Tryd.prog w = .ok (.agg (pgA m n)) w := by
  obtain ⟨D, h1, h2⟩ := h
  obtain ⟨v, ps, hrun, hv⟩ := h1.lookup law3 Tryd.underlying70 (zero61 w) (zd := .held (.agg zeroPg)) (zp := []) rfl (key3 (n := n) (by omega) (by omega))
  rw [h2 n hn] at hv
  simp only [heldE, Option.some.injEq, Prod.mk.injEq, DataW.held.injEq] at hv
  rw [hrun, hv.1]
theorem SetAt.look {w : World} {b N : Nat} {s : Int → Bool} (h : SetAt w b N s) (n : Int) (h0 : -9223372036854775808 ≤ n) (h1 : n ≤ 9223372036854775807) : (Instr.lookup 71 (.map (some b)) (.int .i64 n) true).run Tryd.prog w = .ok (.tuple #[.agg #[], .bool (s n)]) w := by
  obtain ⟨D, g1, g2⟩ := h
  obtain ⟨v, ps, hrun, hv⟩ := g1.look_ok law3 Tryd.underlying71 (zero64 w) (zd := .agg []) (zp := []) unitElem_mk (key3 h0 h1)
  obtain ⟨rfl, _⟩ := unitElem_inv hv
  rw [hrun, g2 n]
theorem isKey_i64 {n : Int} : WideAt.IsKeyLit (.int .i64 n) := by trivial
theorem lit_ne {a b : Int} (h : a ≠ b) : (Lit.int .i64 a) ≠ .int .i64 b := by intro e; cases e; exact h rfl
/-- a page, laid -/
theorem PagesAt.put {w w' : World} {b N n : Nat} {m m' : Nat → Int} (hm : ∀ k : Nat, k < 64 → k ≠ n → pgA m' k = pgA m k) {D : DataW Value} (h2 : ∀ n : Nat, n < 64 → D.atKey (.int .i64 n) (.held (.agg zeroPg)) = .held (.agg (pgA m n))) (hD : IsMap D)
    (h1 : w'.ownsMap Tryd.prog 3 heldE b N (D.put (.int .i64 n) (.held (.agg (pgA m' n))))) : PagesAt w' b N m' := by
  refine ⟨_, h1, fun k hk => ?_⟩
  by_cases e : k = n
  · subst e; exact atKey_put_same hD isKey_i64 _ _
  · rw [atKey_put_other (lit_ne (by omega)), h2 k hk, hm k hk e]
theorem SetAt.put {w' : World} {b N : Nat} {n : Int} {s : Int → Bool} {D : DataW Unit} (h2 : ∀ x : Int, Maps.has D (.int .i64 x) = s x) (hD : IsMap D) (h1 : w'.ownsMap Tryd.prog 3 unitElem b N (D.put (.int .i64 n) (.agg []))) : SetAt w' b N (fun x => if x = n then true else s x) := by
  refine ⟨_, h1, fun x => ?_⟩
  show Maps.has _ _ = if x = n then true else s x
  by_cases e : x = n
  · subst e; rw [if_pos rfl]; exact has_put_same hD isKey_i64 _
  · rw [if_neg e, has_put_other (lit_ne e), h2]
end Go.Proofs.YtkehhlibkebomaaDoor
/-
  Keys of a set of int, sorted: functions of packages maps and slices as this program has them.
-/
namespace Go.Proofs
open Go.Shelf
def Tryd.keysH_ren : Go.Shelf.Ren := ⟨fun | 7 => 23 | 10 => 36 | n => n, fun | 23 => 71 | 26 => 3 | 3 => 78 | 28 => 76 | 0 => 0 | 27 => 75 | 33 => 96 | 4 => 4 | n => n, fun | n => n⟩
theorem Tryd.keysH : Go.Proofs.SlLaysZI.n7 Tryd.prog Tryd.keysH_ren := {
  mixed := by kernel_rfl
  f7 := ⟨Tryd.f23.name, by decide, Tryd.func23.trans (congrArg some (by kernel_rfl))⟩
  f10 := ⟨Tryd.f36.name, by decide, Tryd.func36.trans (congrArg some (by kernel_rfl))⟩
  t0 := Tryd.underlying0
  a0 := Tryd.isAgg0
  z0 := Tryd.sizeOf0
  v0 := Tryd.zeroValue0
  t4 := Tryd.underlying4
  a4 := Tryd.isAgg4
  z4 := Tryd.sizeOf4
  v4 := Tryd.zeroValue4
  t23 := Tryd.underlying71
  a23 := Tryd.isAgg71
  z23 := Tryd.sizeOf71
  v23 := Tryd.zeroValue71
  t26 := Tryd.underlying3
  a26 := Tryd.isAgg3
  z26 := Tryd.sizeOf3
  v26 := Tryd.zeroValue3
  t27 := Tryd.underlying75
  a27 := Tryd.isAgg75
  z27 := Tryd.sizeOf75
  v27 := Tryd.zeroValue75
  t28 := Tryd.underlying76
  a28 := Tryd.isAgg76
  z28 := Tryd.sizeOf76
  v28 := Tryd.zeroValue76
  t33 := Tryd.underlying96
  a33 := Tryd.isAgg96
  z33 := Tryd.sizeOf96
  v33 := Tryd.zeroValue96 }
def Tryd.sortedH_ren : Go.Shelf.Ren := ⟨fun | 6 => 22 | 8 => 34 | 9 => 35 | 11 => 48 | 13 => 50 | 12 => 49 | 23 => 70 | 24 => 71 | 14 => 61 | 15 => 62 | 16 => 63 | 17 => 64 | 18 => 65 | 19 => 66 | 20 => 67 | 21 => 68 | 22 => 69 | 25 => 73 | 26 => 74 | 27 => 75 | 28 => 76 | 29 => 77 | 30 => 78 | 31 => 79 | n => n, fun | 26 => 3 | 28 => 76 | 24 => 49 | 0 => 0 | 3 => 3 | 37 => 107 | 48 => 23 | 50 => 140 | 4 => 4 | 40 => 132 | 39 => 131 | 45 => 137 | 5 => 5 | 9 => 9 | 51 => 142 | 55 => 146 | 57 => 148 | 58 => 149 | 33 => 96 | n => n, fun | n => n⟩
theorem Tryd.sortedH : Go.Proofs.SlLaysZI.n6 Tryd.prog Tryd.sortedH_ren := {
  mixed := by kernel_rfl
  f6 := ⟨Tryd.f22.name, by decide, Tryd.func22.trans (congrArg some (by kernel_rfl))⟩
  f8 := ⟨Tryd.f34.name, by decide, Tryd.func34.trans (congrArg some (by kernel_rfl))⟩
  f11 := ⟨Tryd.f48.name, by decide, Tryd.func48.trans (congrArg some (by kernel_rfl))⟩
  t0 := Tryd.underlying0
  a0 := Tryd.isAgg0
  z0 := Tryd.sizeOf0
  v0 := Tryd.zeroValue0
  t24 := Tryd.underlying49
  a24 := Tryd.isAgg49
  z24 := Tryd.sizeOf49
  v24 := Tryd.zeroValue49
  t26 := Tryd.underlying3
  a26 := Tryd.isAgg3
  z26 := Tryd.sizeOf3
  v26 := Tryd.zeroValue3
  t28 := Tryd.underlying76
  a28 := Tryd.isAgg76
  z28 := Tryd.sizeOf76
  v28 := Tryd.zeroValue76
  i26 := by kernel_rfl }
def Tryd.sortH_ren : Go.Shelf.Ren := ⟨fun | 5 => 35 | 8 => 50 | 7 => 49 | 19 => 70 | 20 => 71 | 10 => 61 | 11 => 62 | 12 => 63 | 13 => 64 | 14 => 65 | 15 => 66 | 16 => 67 | 17 => 68 | 18 => 69 | 30 => 73 | 31 => 74 | 32 => 75 | 33 => 76 | 34 => 77 | 35 => 78 | 40 => 79 | n => n, fun | 23 => 49 | 25 => 3 | 3 => 3 | 32 => 107 | 22 => 49 | 0 => 0 | 44 => 23 | 46 => 140 | 4 => 4 | 36 => 132 | 35 => 131 | 41 => 137 | 5 => 5 | 9 => 9 | 53 => 142 | 57 => 146 | 63 => 148 | 64 => 149 | n => n, fun | n => n⟩
theorem Tryd.sortH : Go.Proofs.SlLaysM.n5 Tryd.prog Tryd.sortH_ren := {
  mixed := by kernel_rfl
  f5 := ⟨Tryd.f35.name, by decide, Tryd.func35.trans (congrArg some (by kernel_rfl))⟩
  f7 := ⟨Tryd.f49.name, by decide, Tryd.func49.trans (congrArg some (by kernel_rfl))⟩
  f8 := Tryd.func50.trans (congrArg some (by kernel_rfl))
  f10 := ⟨Tryd.f61.name, by decide, Tryd.func61.trans (congrArg some (by kernel_rfl))⟩
  f11 := ⟨Tryd.f62.name, by decide, Tryd.func62.trans (congrArg some (by kernel_rfl))⟩
  f12 := ⟨Tryd.f63.name, by decide, Tryd.func63.trans (congrArg some (by kernel_rfl))⟩
  f13 := ⟨Tryd.f64.name, by decide, Tryd.func64.trans (congrArg some (by kernel_rfl))⟩
  f14 := ⟨Tryd.f65.name, by decide, Tryd.func65.trans (congrArg some (by kernel_rfl))⟩
  f15 := ⟨Tryd.f66.name, by decide, Tryd.func66.trans (congrArg some (by kernel_rfl))⟩
  f16 := ⟨Tryd.f67.name, by decide, Tryd.func67.trans (congrArg some (by kernel_rfl))⟩
  f17 := ⟨Tryd.f68.name, by decide, Tryd.func68.trans (congrArg some (by kernel_rfl))⟩
  f18 := ⟨Tryd.f69.name, by decide, Tryd.func69.trans (congrArg some (by kernel_rfl))⟩
  f19 := Tryd.func70.trans (congrArg some (by kernel_rfl))
  f20 := Tryd.func71.trans (congrArg some (by kernel_rfl))
  f30 := ⟨Tryd.f73.name, by decide, Tryd.func73.trans (congrArg some (by kernel_rfl))⟩
  f31 := Tryd.func74.trans (congrArg some (by kernel_rfl))
  f32 := Tryd.func75.trans (congrArg some (by kernel_rfl))
  f33 := ⟨Tryd.f76.name, by decide, Tryd.func76.trans (congrArg some (by kernel_rfl))⟩
  f34 := ⟨Tryd.f77.name, by decide, Tryd.func77.trans (congrArg some (by kernel_rfl))⟩
  f35 := ⟨Tryd.f78.name, by decide, Tryd.func78.trans (congrArg some (by kernel_rfl))⟩
  f40 := ⟨Tryd.f79.name, by decide, Tryd.func79.trans (congrArg some (by kernel_rfl))⟩
  t0 := Tryd.underlying0
  a0 := Tryd.isAgg0
  z0 := Tryd.sizeOf0
  v0 := Tryd.zeroValue0
  t3 := Tryd.underlying3
  a3 := Tryd.isAgg3
  z3 := Tryd.sizeOf3
  v3 := Tryd.zeroValue3
  t4 := Tryd.underlying4
  a4 := Tryd.isAgg4
  z4 := Tryd.sizeOf4
  v4 := Tryd.zeroValue4
  t5 := Tryd.underlying5
  a5 := Tryd.isAgg5
  z5 := Tryd.sizeOf5
  v5 := Tryd.zeroValue5
  t9 := Tryd.underlying9
  a9 := Tryd.isAgg9
  z9 := Tryd.sizeOf9
  v9 := Tryd.zeroValue9
  t22 := Tryd.underlying49
  a22 := Tryd.isAgg49
  z22 := Tryd.sizeOf49
  v22 := Tryd.zeroValue49
  t23 := Tryd.underlying49
  a23 := Tryd.isAgg49
  z23 := Tryd.sizeOf49
  v23 := Tryd.zeroValue49
  t25 := Tryd.underlying3
  a25 := Tryd.isAgg3
  z25 := Tryd.sizeOf3
  v25 := Tryd.zeroValue3
  t32 := Tryd.underlying107
  a32 := Tryd.isAgg107
  z32 := Tryd.sizeOf107
  v32 := Tryd.zeroValue107
  t35 := Tryd.underlying131
  a35 := Tryd.isAgg131
  z35 := Tryd.sizeOf131
  v35 := Tryd.zeroValue131
  t36 := Tryd.underlying132
  a36 := Tryd.isAgg132
  z36 := Tryd.sizeOf132
  v36 := Tryd.zeroValue132
  t41 := Tryd.underlying137
  a41 := Tryd.isAgg137
  z41 := Tryd.sizeOf137
  v41 := Tryd.zeroValue137
  t44 := Tryd.underlying23
  a44 := Tryd.isAgg23
  z44 := Tryd.sizeOf23
  v44 := Tryd.zeroValue23
  t46 := Tryd.underlying140
  a46 := Tryd.isAgg140
  z46 := Tryd.sizeOf140
  v46 := Tryd.zeroValue140
  t53 := Tryd.underlying142
  a53 := Tryd.isAgg142
  z53 := Tryd.sizeOf142
  v53 := Tryd.zeroValue142
  t57 := Tryd.underlying146
  a57 := Tryd.isAgg146
  z57 := Tryd.sizeOf146
  v57 := Tryd.zeroValue146
  t63 := Tryd.underlying148
  a63 := Tryd.isAgg148
  z63 := Tryd.sizeOf148
  v63 := Tryd.zeroValue148
  t64 := Tryd.underlying149
  a64 := Tryd.isAgg149
  z64 := Tryd.sizeOf149
  v64 := Tryd.zeroValue149 }
end Go.Proofs
/-
  Hits: the pages that were hit, sorted; then none.
-/
namespace Go.Proofs.YtkehhlibkebomaaDoor
open Go.RowKit Go.Maps Go.Sort Go.Shelf
open Num
set_option linter.unusedVariables false
theorem sortsH (m : Nat) : AnyZI.SortsIn Tryd.prog Tryd.sortedH_ren Fence.wide m :=
  ⟨fun blk off cap ss W hH hblk hsz => callsIn_wide.2 (AnyM.slices_Sort_int Tryd.sortH blk off cap ss W hH hblk hsz),
   fun p cap W => callsIn_wide.2 (AnyM.slices_Sort_int_none Tryd.sortH p cap W)⟩
theorem clear_set {w : World} {b clock : Nat} {es : Array MapEntry} (hb : w.heap[b]? = some (.map es clock)) (ty : TypeId) : (Builtin.clear_ #[71] ty #[.map (some b)]).run Tryd.prog w = .ok (.tuple #[]) { w with heap := w.heap.setIfInBounds b (.map #[] clock) } := by
  simp [Builtin.clear_, run_underlying Tryd.underlying71, MapKept.run_getObj_map hb, MapKept.run_setObj_map _ hb, Result.andThen]
set_option maxHeartbeats 1000000 in
theorem hits_any {w : World} {sb bp bw bh N : Nat} {m : Nat → Int} {wt ht : Int → Bool} (R : RamIs w sb bp bw bh N m wt ht) (hN : N ≤ 1000000) :
    Calls Tryd.prog 14 #[.pointer (some ⟨sb, 0, none⟩)] w fun e w' => ∃ (v : Value) (ss : List Int) (D : DataW Unit), e = .returned v ∧ (∀ x : Int, Maps.has D (.int .i64 x) = ht x) ∧ w.ownsMap Tryd.prog 3 unitElem bh N D ∧ ss.Perm (intKeys D) ∧
      w'.ownsRow w.heap.size 3 1 v ss.length ((ss.mergeSort (fun x y => decide (x ≤ y))).map encZ) ∧ (v = .slice none 0 0 ↔ ss = []) ∧ RamIs w' sb bp bw bh N m wt (fun _ => false) ∧ w.heap.size ≤ w'.heap.size ∧ (∀ k, k < w.heap.size → k ≠ bh → w'.heap[k]? = w.heap[k]?) ∧ w'.os = w.os ∧ w'.tape = w.tape ∧ w'.output = w.output := by
  obtain ⟨D0, hown, hD⟩ := R.hs
  refine (callsIn_wide (n := 6)).1 ?_
  have hbl := hown.lt
  have c2 := R.c2
  have hsz : Maps.size D0 ≤ 1000000 := Nat.le_trans hown.size_le hN
  have hseq : SeqGives Fence.wide 2 Tryd.prog 36 #[.pointer (some ⟨w.heap.size, 0, none⟩)] encZ (fun ss => ss.Perm (intKeys D0)) (Maps.size D0) (w.alloc (.cells #[.map (some bh)] 71)) :=
    AnyZI.keys_gives (ρ := Tryd.keysH_ren) { Tryd.keysH with } Fence.wide _ trivial rfl (by omega) w.heap.size bh N D0 _ (by simp) (by simp) (by
      obtain ⟨es, clock, hb, Ft, hs, hD⟩ := hown
      exact ⟨es, clock, (Below.heap_alloc _ _ bh hbl).trans hb, Ft, hs, hD⟩)
  have cK : ∀ mb W, CallsIn Fence.wide 5 Tryd.prog 23 #[.map mb] W fun e w' => e = .returned (.func (.func 36) #[] #[.pointer (some ⟨W.heap.size, 0, none⟩)]) ∧ w' = W.alloc (.cells #[.map mb] 71) := fun mb W => AnyZI.keys_in Tryd.keysH Fence.wide 5 trivial rfl mb W
  have cS := AnyZI.sorted_in Tryd.sortedH Fence.wide 5 trivial trivial trivial trivial rfl (by omega) (sortsH _) (enters_of Tryd.func35 (by kernel_rfl) rfl) 36 #[.pointer (some ⟨w.heap.size, 0, none⟩)] trivial (enters_of Tryd.func36 (by kernel_rfl) rfl) _ _ (show Maps.size D0 ≤ maxLen by unfold maxLen; omega) (by omega) _ hseq
  change CallsIn _ _ Tryd.prog 22 _ _ _ at cS
  have hfK : Fence.wide.fn 23 := trivial
  have hfS : Fence.wide.fn 22 := trivial
  refine callsIn_of_wp Tryd.func14 rfl trivial ?_ rfl
  simp only [Tryd.ntmps14, List.size_toArray, List.length_cons, List.length_nil, Nat.reduceAdd, Nat.reduceSub, Array.replicate_succ, Array.replicate_zero, List.push_toArray, List.append_toArray, List.nil_append, List.cons_append]
  gi_wp2_with (first
    | (gi_at_call 23; refine (cK _ _).mono ?_; rintro e w' ⟨rfl, rfl⟩)
    | (gi_at_call 22; refine cS.mono ?_; rintro e w' ⟨v, ss, rfl, hS, hrow, hnil, hb⟩; have b2 : Below w.heap.size w w' := ((Below.refl _ w).alloc (Nat.le_refl _) _).trans (hb.mono (by simp)); have R2 := R.stays b2 (Nat.le_refl _); have c2' := R2.c2; obtain ⟨es, clock, hm, _⟩ := hown; have hm' := (b2.block bh hbl).trans hm; have hcl := fun ty => clear_set hm' ty))
  go_ret
  obtain ⟨hs1, hs2⟩ := MapKept.heap_set (o' := Obj.map #[] clock) hm'
  generalize hZ : ({ w' with heap := w'.heap.setIfInBounds bh (Obj.map #[] clock) } : World) = Z
  have z1 : Z.heap[bh]? = some (.map #[] clock) := by rw [← hZ]; exact hs1
  have z2 : ∀ k, k ≠ bh → Z.heap[k]? = w'.heap[k]? := by rw [← hZ]; exact hs2
  have z3 : Z.heap.size = w'.heap.size := by rw [← hZ]; simp
  have z4 : Z.os = w'.os ∧ Z.tape = w'.tape ∧ Z.output = w'.output := by rw [← hZ]; exact ⟨rfl, rfl, rfl⟩
  clear hZ hs1 hs2
  have zc : ∀ (j : Nat) (u : Value), w'.cell? ⟨sb, j, none⟩ = some u → Z.cell? ⟨sb, j, none⟩ = some u := fun j u h => (World.cell?_of_block (a := ⟨sb, j, none⟩) (z2 sb R.sh)).trans h
  have hg : w'.grownBy Z (some bh) := ⟨z4.1, z4.2.1, z4.2.2, by omega, fun k _ hk => z2 k (fun e => hk (by rw [e]))⟩
  refine ⟨v, ss, D0, rfl, hD, ⟨es, clock, hm, ‹_›⟩, hS, ?_, hnil, ⟨zc _ _ R2.c0, zc _ _ R2.c1, zc _ _ R2.c2, R2.pw, R2.ph, R2.wh, R2.sp, R2.sh, R2.ps.kept hg (by simpa using R2.ph), R2.ws.kept hg (by simpa using R2.wh), ⟨.map [], ⟨#[], clock, z1, ⟨by simp, MapKept.stamped_empty _, by simp⟩, Nat.zero_le _, rfl⟩, fun x => rfl⟩, R2.mb⟩, by have := b2.size; omega, fun k hk hn => (z2 k hn).trans (b2.block k hk), z4.1.trans b2.os, z4.2.1.trans b2.tape, z4.2.2.trans b2.output⟩
  obtain ⟨hl, h | ⟨g, cap, cur, rfl, hgb, hgc, hr⟩⟩ := hrow
  · exact ⟨hl, .inl h⟩
  · simp at hgb
    exact ⟨hl, .inr ⟨g, cap, cur, rfl, by omega, (z2 g (by omega)).trans hgc, hr⟩⟩
end Go.Proofs.YtkehhlibkebomaaDoor
