/-
  Memory as package ram holds it: three maps behind a struct's pointer: what they are good for, in one word.
-/
import Derived.Test.YtckcbnfobjmhpaaDoorSmall
import Derived.Maps.OwnSet
import Derived.Laws.CopyOwn
import Derived.Great.Walk
namespace Go.Proofs.YtckcbnfobjmhpaaDoor
open Go.RowKit Go.Maps
open Num
set_option linter.unusedVariables false
theorem law3 : Keyed Tryd.prog 3 := int_keyed Tryd.underlying3
/-- an element, as it is -/
def heldE (v : Value) : Option (DataW Value × List MemPlace) := some (.held v, [])
/-- a page's cells -/
def pgL (m : Nat → Int) (n : Nat) : List Value := (List.range 64).map fun i => .int .u32 (m (64 * n + i))
def pgA (m : Nat → Int) (n : Nat) : Array Value := (pgL m n).toArray
def zeroPg : Array Value := pgA (fun _ => 0) 0
theorem pgL_len (m : Nat → Int) (n : Nat) : (pgL m n).length = 64 := by simp [pgL]
theorem pgA_size (m : Nat → Int) (n : Nat) : (pgA m n).size = 64 := by simp [pgA, pgL]
theorem pgL_get (m : Nat → Int) (n i : Nat) (h : i < 64) : (pgL m n)[i]? = some (.int .u32 (m (64 * n + i))) := by
  simp [pgL, List.getElem?_map, List.getElem?_range h]
theorem pgA_get (m : Nat → Int) (n i : Nat) (h : i < 64) : (pgA m n)[i]? = some (.int .u32 (m (64 * n + i))) := by
  unfold pgA; rw [List.getElem?_toArray]; exact pgL_get m n i h
theorem pgA_one (m : Nat → Int) (n : Nat) : (pgA m n).all (·.oneCell') = true := by
  rw [Array.all_eq_true_iff_forall_mem]
  intro x hx
  simp only [pgA, pgL, List.mem_toArray, List.mem_map] at hx
  obtain ⟨i, _, rfl⟩ := hx
  rfl
theorem pgL_one (m : Nat → Int) (n : Nat) : ∀ u ∈ pgL m n, u.oneCell' = true := by
  intro x hx
  simp only [pgL, List.mem_map] at hx
  obtain ⟨i, _, rfl⟩ := hx
  rfl
theorem pgL_congr {m m' : Nat → Int} {n n' : Nat} (h : ∀ i, i < 64 → m (64 * n + i) = m' (64 * n' + i)) : pgL m n = pgL m' n' := by
  unfold pgL
  apply List.map_congr_left
  intro i hi
  rw [h i (List.mem_range.1 hi)]
theorem pgA_congr {m m' : Nat → Int} {n n' : Nat} (h : ∀ i, i < 64 → m (64 * n + i) = m' (64 * n' + i)) : pgA m n = pgA m' n' := by
  unfold pgA; rw [pgL_congr h]
theorem zero61 (w : World) : (zeroValue 79).run Tryd.prog w = .ok (.agg zeroPg) w := by kernel_rfl
theorem zero64 (w : World) : (zeroValue 89).run Tryd.prog w = .ok (.agg #[]) w := by kernel_rfl
theorem info61 : (Tryd.prog.info? 79).map (·.size) = some 64 := by kernel_rfl
theorem info23 : (Tryd.prog.info? 23).map (fun i => (i.zero, i.size, i.bytes)) = some (some (.int .u32 0), 1, 4) := by kernel_rfl
theorem size23 : (Tryd.prog.info? 23).map (·.size) = some 1 := by kernel_rfl
/-- the pages in a map -/
def PagesAt (w : World) (b N : Nat) (m : Nat → Int) : Prop := ∃ D : DataW Value, w.ownsMap Tryd.prog 3 heldE b N D ∧ ∀ n : Nat, n < 64 → D.atKey (.int .i64 n) (.held (.agg zeroPg)) = .held (.agg (pgA m n))
/-- a set of pages -/
def SetAt (w : World) (b N : Nat) (s : Int → Bool) : Prop := ∃ D : DataW Unit, w.ownsMap Tryd.prog 3 unitElem b N D ∧ ∀ x : Int, Maps.has D (.int .i64 x) = s x
theorem PagesAt.lt {w : World} {b N : Nat} {m : Nat → Int} (h : PagesAt w b N m) : b < w.heap.size := let ⟨_, h, _⟩ := h; h.lt
theorem SetAt.lt {w : World} {b N : Nat} {s : Int → Bool} (h : SetAt w b N s) : b < w.heap.size := let ⟨_, h, _⟩ := h; h.lt
theorem PagesAt.kept {w w' : World} {b N : Nat} {m : Nat → Int} {row : Option Nat} (h : PagesAt w b N m) (hg : w.grownBy w' row) (hne : some b ≠ row) : PagesAt w' b N m :=
  let ⟨D, h1, h2⟩ := h; ⟨D, h1.kept hg hne, h2⟩
theorem SetAt.kept {w w' : World} {b N : Nat} {s : Int → Bool} {row : Option Nat} (h : SetAt w b N s) (hg : w.grownBy w' row) (hne : some b ≠ row) : SetAt w' b N s :=
  let ⟨D, h1, h2⟩ := h; ⟨D, h1.kept hg hne, h2⟩
theorem PagesAt.mono {w : World} {b N N' : Nat} {m : Nat → Int} (h : PagesAt w b N m) (hn : N ≤ N') : PagesAt w b N' m :=
  let ⟨D, h1, h2⟩ := h; ⟨D, h1.mono hn, h2⟩
theorem SetAt.mono {w : World} {b N N' : Nat} {s : Int → Bool} (h : SetAt w b N s) (hn : N ≤ N') : SetAt w b N' s :=
  let ⟨D, h1, h2⟩ := h; ⟨D, h1.mono hn, h2⟩
theorem grown_of_below {B : Nat} {w w' : World} (h : Below B w w') (hB : w.heap.size ≤ B) : w.grownBy w' none :=
  ⟨h.os, h.tape, h.output, h.size, fun k hk _ => h.block k (Nat.lt_of_lt_of_le hk hB)⟩
/-- block sb is a Ram: its words, the pages that are watched, those that were hit -/
structure RamIs (w : World) (sb bp bw bh N : Nat) (m : Nat → Int) (wt ht : Int → Bool) : Prop where
  c0 : w.cell? ⟨sb, 0, none⟩ = some (.map (some bp))
  c1 : w.cell? ⟨sb, 1, none⟩ = some (.map (some bw))
  c2 : w.cell? ⟨sb, 2, none⟩ = some (.map (some bh))
  pw : bp ≠ bw
  ph : bp ≠ bh
  wh : bw ≠ bh
  sp : sb ≠ bp
  sh : sb ≠ bh
  ps : PagesAt w bp N m
  ws : SetAt w bw N wt
  hs : SetAt w bh N ht
  mb : ∀ i, 0 ≤ m i ∧ m i < 4294967296
theorem RamIs.grow {w w' : World} {sb bp bw bh N : Nat} {m : Nat → Int} {wt ht : Int → Bool} (R : RamIs w sb bp bw bh N m wt ht) (hg : w.grownBy w' none) : RamIs w' sb bp bw bh N m wt ht :=
  ⟨hg.cell R.c0 (by simp), hg.cell R.c1 (by simp), hg.cell R.c2 (by simp), R.pw, R.ph, R.wh, R.sp, R.sh, R.ps.kept hg (by simp), R.ws.kept hg (by simp), R.hs.kept hg (by simp), R.mb⟩
theorem RamIs.stays {B : Nat} {w w' : World} {sb bp bw bh N : Nat} {m : Nat → Int} {wt ht : Int → Bool} (R : RamIs w sb bp bw bh N m wt ht) (h : Below B w w') (hB : w.heap.size ≤ B) : RamIs w' sb bp bw bh N m wt ht :=
  R.grow (grown_of_below h hB)
theorem wf_i64 {n : Int} (h0 : -9223372036854775808 ≤ n) (h1 : n ≤ 9223372036854775807) : (Lit.int .i64 n).wf = true := by
  simp [Lit.wf, IntKind.min, IntKind.max, IntKind.signed, IntKind.bits]; omega
theorem key3 {n : Int} (h0 : -9223372036854775808 ≤ n) (h1 : n ≤ 9223372036854775807) : keyOf Tryd.prog 3 (.int .i64 n) = some (.int .i64 n) := keyOf_int_mk Tryd.underlying3 (wf_i64 h0 h1)
/-- a page, looked up -/
theorem PagesAt.look {w : World} {b N : Nat} {m : Nat → Int} (h : PagesAt w b N m) (n : Nat) (hn : n < 64) : (Instr.lookup 80 (.map (some b)) (.int .i64 n) false).run Tryd.prog w = .ok (.agg (pgA m n)) w := by
  obtain ⟨D, h1, h2⟩ := h
  obtain ⟨v, ps, hrun, hv⟩ := h1.lookup law3 Tryd.underlying80 (zero61 w) (zd := .held (.agg zeroPg)) (zp := []) rfl (key3 (n := n) (by omega) (by omega))
  rw [h2 n hn] at hv
  simp only [heldE, Option.some.injEq, Prod.mk.injEq, DataW.held.injEq] at hv
  rw [hrun, hv.1]
theorem SetAt.look {w : World} {b N : Nat} {s : Int → Bool} (h : SetAt w b N s) (n : Int) (h0 : -9223372036854775808 ≤ n) (h1 : n ≤ 9223372036854775807) : (Instr.lookup 81 (.map (some b)) (.int .i64 n) true).run Tryd.prog w = .ok (.tuple #[.agg #[], .bool (s n)]) w := by
  obtain ⟨D, g1, g2⟩ := h
  obtain ⟨v, ps, hrun, hv⟩ := g1.look_ok law3 Tryd.underlying81 (zero64 w) (zd := .agg []) (zp := []) unitElem_mk (key3 h0 h1)
  obtain ⟨rfl, _⟩ := unitElem_inv hv
  rw [hrun, g2 n]
theorem isKey_i64 {n : Int} : WideAt.IsKeyLit (.int .i64 n) := by trivial
theorem lit_ne {a b : Int} (h : a ≠ b) : (Lit.int .i64 a) ≠ .int .i64 b := by intro e; cases e; exact h rfl
/-- a page, laid -/
theorem PagesAt.put {w w' : World} {b N n : Nat} {m m' : Nat → Int} (hm : ∀ k : Nat, k < 64 → k ≠ n → pgA m' k = pgA m k) {D : DataW Value} (h2 : ∀ n : Nat, n < 64 → D.atKey (.int .i64 n) (.held (.agg zeroPg)) = .held (.agg (pgA m n))) (hD : IsMap D)
    (h1 : w'.ownsMap Tryd.prog 3 heldE b N (D.put (.int .i64 n) (.held (.agg (pgA m' n))))) : PagesAt w' b N m' := by
  refine ⟨_, h1, fun k hk => ?_⟩
  by_cases e : k = n
  · subst e; exact atKey_put_same hD isKey_i64 _ _
  · rw [atKey_put_other (lit_ne (by omega)), h2 k hk, hm k hk e]
theorem SetAt.put {w' : World} {b N : Nat} {n : Int} {s : Int → Bool} {D : DataW Unit} (h2 : ∀ x : Int, Maps.has D (.int .i64 x) = s x) (hD : IsMap D) (h1 : w'.ownsMap Tryd.prog 3 unitElem b N (D.put (.int .i64 n) (.agg []))) : SetAt w' b N (fun x => if x = n then true else s x) := by
  refine ⟨_, h1, fun x => ?_⟩
  show Maps.has _ _ = if x = n then true else s x
  by_cases e : x = n
  · subst e; rw [if_pos rfl]; exact has_put_same hD isKey_i64 _
  · rw [if_neg e, has_put_other (lit_ne e), h2]
end Go.Proofs.YtckcbnfobjmhpaaDoor
