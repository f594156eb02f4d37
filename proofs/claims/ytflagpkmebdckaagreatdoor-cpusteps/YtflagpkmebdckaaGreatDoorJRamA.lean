/-
  Package ram's small functions.
-/
import Derived.Maps.OwnSet
import Derived.Laws.CopyOwn
import Derived.Great.Walk
import Derived.Deep.RegionWith
import Derived.Deep.Cut
import Derived.WalkSpells
import Derived.StillTailTactics
import Derived.Test.YtflagpkmebdckaaGreatDoorKNum
namespace Go.Proofs.YtflagpkmebdckaaGreatDoor
open Go.RowKit
open Num
set_option linter.unusedVariables false
/-- the errors that an access answers lie where the program's text lays them -/
structure Er (ps pa pf : Addr) (w : World) : Prop where
  s : w.cell? ⟨1, 0, none⟩ = some (.iface 332 (.pointer (some ps)))
  a : w.cell? ⟨2, 0, none⟩ = some (.iface 332 (.pointer (some pa)))
  f : w.cell? ⟨3, 0, none⟩ = some (.iface 332 (.pointer (some pf)))
/-- .. by number -/
def erA (ps pa pf : Addr) (n : Nat) : Addr := if n = 1 then ps else if n = 2 then pa else pf
set_option maxHeartbeats 1000000 in
theorem pageOf_any (a : Int) (h0 : 0 ≤ a) (h1 : a < 4294967296) (w : World) : Calls Tryz.prog 39 #[.int .u32 a] w fun e w' => e = .returned (.int .i64 (a / 256)) ∧ w' = w := by
  go_enter Tryz.func39, Tryz.ntmps39
  go_wp2
  go_ret
  exact ⟨rfl, rfl⟩
set_option maxHeartbeats 1000000 in
theorem wordOf_any (a : Int) (h0 : 0 ≤ a) (h1 : a < 4294967296) (w : World) : Calls Tryz.prog 40 #[.int .u32 a] w fun e w' => e = .returned (.int .i64 (a % 256 / 4)) ∧ w' = w := by
  go_enter Tryz.func40, Tryz.ntmps40
  go_wp2
  go_ret
  exact ⟨rfl, rfl⟩
set_option maxHeartbeats 1000000 in
theorem bits_any (a s : Int) (h0 : 0 ≤ a) (h1 : a < 4294967296) (hc : chk a s = 0) (w : World) : Calls Tryz.prog 41 #[.int .u32 a, .int .i64 s] w fun e w' => e = .returned (.int .u32 (bhd a s)) ∧ w' = w := by
  obtain ⟨hs, hm, _⟩ := chk_ok hc
  have hb : 0 ≤ 4 - a % 4 - s := by
    rcases hs with rfl | rfl | rfl <;> omega
  have hs' : 1 ≤ s ∧ s ≤ 4 := by omega
  clear hs hm hc
  obtain ⟨hs1, hs2⟩ := hs'
  go_enter Tryz.func41, Tryz.ntmps41
  go_wp2
  go_ret
  exact ⟨ret_int (by unfold bhd; omega), rfl⟩
set_option maxHeartbeats 1000000 in
theorem check_ok (a s : Int) (h0 : 0 ≤ a) (h1 : a < 4294967296) (hc : chk a s = 0) (w : World) : Calls Tryz.prog 37 #[.int .u32 a, .int .i64 s] w fun e w' => e = .returned .nilIface ∧ w' = w := by
  obtain ⟨hs, hm, hf⟩ := chk_ok hc
  clear hc
  rcases hs with rfl | rfl | rfl
  all_goals
    go_enter Tryz.func37, Tryz.ntmps37
    go_wp2
    go_ret
    exact ⟨rfl, rfl⟩
set_option maxHeartbeats 1000000 in
theorem check_no (ps pa pf : Addr) (a s : Int) (h0 : 0 ≤ a) (h1 : a < 4294967296) (s0 : -9223372036854775808 ≤ s) (s1 : s ≤ 9223372036854775807) (hc : chk a s ≠ 0) (w : World) (E : Er ps pa pf w) : Calls Tryz.prog 37 #[.int .u32 a, .int .i64 s] w fun e w' => e = .returned (.iface 332 (.pointer (some (erA ps pa pf (chk a s))))) ∧ w' = w := by
  obtain ⟨es, ea, ef⟩ := E
  by_cases hs : s ≠ 1 ∧ s ≠ 2 ∧ s ≠ 4
  · have e : Hid (erA ps pa pf (chk a s) = ps) := by show _ = _; unfold erA chk; rw [if_pos hs]; rfl
    obtain ⟨n1, n2, n4⟩ := hs
    have d1 : (s != 1) = true := by simpa using n1
    have d2 : (s != 2) = true := by simpa using n2
    have d4 : (s != 4) = true := by simpa using n4
    clear hc n1 n2 n4
    go_enter Tryz.func37, Tryz.ntmps37
    go_wp2
    go_ret
    exact ⟨by rw [e.out]; rfl, rfl⟩
  · by_cases hm : a % s ≠ 0
    · have e : Hid (erA ps pa pf (chk a s) = pa) := by show _ = _; unfold erA chk; rw [if_neg hs, if_pos hm]; rfl
      have hs' : s = 1 ∨ s = 2 ∨ s = 4 := by omega
      clear hc hs
      rcases hs' with rfl | rfl | rfl
      · omega
      all_goals
        go_enter Tryz.func37, Tryz.ntmps37
        go_wp2
        go_ret
        exact ⟨by rw [e.out]; rfl, rfl⟩
    · by_cases hf : 16384 ≤ a
      · have e : Hid (erA ps pa pf (chk a s) = pf) := by show _ = _; unfold erA chk; rw [if_neg hs, if_neg hm, if_pos hf]; rfl
        have hs' : s = 1 ∨ s = 2 ∨ s = 4 := by omega
        have hm' : a % s = 0 := by simpa using hm
        clear hc hs hm
        rcases hs' with rfl | rfl | rfl
        all_goals
          go_enter Tryz.func37, Tryz.ntmps37
          go_wp2
          go_ret
          exact ⟨by rw [e.out]; rfl, rfl⟩
      · exact absurd (by unfold chk; rw [if_neg hs, if_neg hm, if_neg hf]) hc
end Go.Proofs.YtflagpkmebdckaaGreatDoor
/-
  Memory as package ram holds it: three maps behind a struct's pointer: what they are good for, in one word.
-/
namespace Go.Proofs.YtflagpkmebdckaaGreatDoor
open Go.RowKit Go.Maps
open Num
set_option linter.unusedVariables false
theorem law3 : Keyed Tryz.prog 3 := int_keyed Tryz.underlying3
/-- an element, as it is -/
def heldE (v : Value) : Option (DataW Value × List MemPlace) := some (.held v, [])
/-- a page's cells -/
def pgL (m : Nat → Int) (n : Nat) : List Value := (List.range 64).map fun i => .int .u32 (m (64 * n + i))
def pgA (m : Nat → Int) (n : Nat) : Array Value := (pgL m n).toArray
def zeroPg : Array Value := pgA (fun _ => 0) 0
theorem pgL_len (m : Nat → Int) (n : Nat) : (pgL m n).length = 64 := by simp [pgL]
theorem pgA_size (m : Nat → Int) (n : Nat) : (pgA m n).size = 64 := by simp [pgA, pgL]
theorem pgL_get (m : Nat → Int) (n i : Nat) (h : i < 64) : (pgL m n)[i]? = some (.int .u32 (m (64 * n + i))) := by
  simp [pgL, List.getElem?_map, List.getElem?_range h]
theorem pgA_get (m : Nat → Int) (n i : Nat) (h : i < 64) : (pgA m n)[i]? = some (.int .u32 (m (64 * n + i))) := by
  unfold pgA; rw [List.getElem?_toArray]; exact pgL_get m n i h
theorem pgA_one (m : Nat → Int) (n : Nat) : (pgA m n).all (·.oneCell') = true := by
  rw [Array.all_eq_true_iff_forall_mem]
  intro x hx
  simp only [pgA, pgL, List.mem_toArray, List.mem_map] at hx
  obtain ⟨i, _, rfl⟩ := hx
  rfl
theorem pgL_one (m : Nat → Int) (n : Nat) : ∀ u ∈ pgL m n, u.oneCell' = true := by
  intro x hx
  simp only [pgL, List.mem_map] at hx
  obtain ⟨i, _, rfl⟩ := hx
  rfl
theorem pgL_congr {m m' : Nat → Int} {n n' : Nat} (h : ∀ i, i < 64 → m (64 * n + i) = m' (64 * n' + i)) : pgL m n = pgL m' n' := by
  unfold pgL
  apply List.map_congr_left
  intro i hi
  rw [h i (List.mem_range.1 hi)]
theorem pgA_congr {m m' : Nat → Int} {n n' : Nat} (h : ∀ i, i < 64 → m (64 * n + i) = m' (64 * n' + i)) : pgA m n = pgA m' n' := by
  unfold pgA; rw [pgL_congr h]
theorem zero61 (w : World) : (zeroValue 101).run Tryz.prog w = .ok (.agg zeroPg) w := by kernel_rfl
theorem zero64 (w : World) : (zeroValue 107).run Tryz.prog w = .ok (.agg #[]) w := by kernel_rfl
theorem info61 : (Tryz.prog.info? 101).map (·.size) = some 64 := by kernel_rfl
theorem info23 : (Tryz.prog.info? 22).map (fun i => (i.zero, i.size, i.bytes)) = some (some (.int .u32 0), 1, 4) := by kernel_rfl
theorem size23 : (Tryz.prog.info? 22).map (·.size) = some 1 := by kernel_rfl
/-- the pages in a map -/
def PagesAt (w : World) (b N : Nat) (m : Nat → Int) : Prop := ∃ D : DataW Value, w.ownsMap Tryz.prog 3 heldE b N D ∧ ∀ n : Nat, n < 64 → D.atKey (.int .i64 n) (.held (.agg zeroPg)) = .held (.agg (pgA m n))
/-- a set of pages -/
def SetAt (w : World) (b N : Nat) (s : Int → Bool) : Prop := ∃ D : DataW Unit, w.ownsMap Tryz.prog 3 unitElem b N D ∧ ∀ x : Int, Maps.has D (.int .i64 x) = s x
theorem PagesAt.lt {w : World} {b N : Nat} {m : Nat → Int} (h : PagesAt w b N m) : b < w.heap.size := let ⟨_, h, _⟩ := h; h.lt
theorem SetAt.lt {w : World} {b N : Nat} {s : Int → Bool} (h : SetAt w b N s) : b < w.heap.size := let ⟨_, h, _⟩ := h; h.lt
theorem PagesAt.kept {w w' : World} {b N : Nat} {m : Nat → Int} {row : Option Nat} (h : PagesAt w b N m) (hg : w.grownBy w' row) (hne : some b ≠ row) : PagesAt w' b N m :=
  let ⟨D, h1, h2⟩ := h; ⟨D, h1.kept hg hne, h2⟩
theorem SetAt.kept {w w' : World} {b N : Nat} {s : Int → Bool} {row : Option Nat} (h : SetAt w b N s) (hg : w.grownBy w' row) (hne : some b ≠ row) : SetAt w' b N s :=
  let ⟨D, h1, h2⟩ := h; ⟨D, h1.kept hg hne, h2⟩
theorem PagesAt.mono {w : World} {b N N' : Nat} {m : Nat → Int} (h : PagesAt w b N m) (hn : N ≤ N') : PagesAt w b N' m :=
  let ⟨D, h1, h2⟩ := h; ⟨D, h1.mono hn, h2⟩
theorem SetAt.mono {w : World} {b N N' : Nat} {s : Int → Bool} (h : SetAt w b N s) (hn : N ≤ N') : SetAt w b N' s :=
  let ⟨D, h1, h2⟩ := h; ⟨D, h1.mono hn, h2⟩
theorem grown_of_below {B : Nat} {w w' : World} (h : Below B w w') (hB : w.heap.size ≤ B) : w.grownBy w' none :=
  ⟨h.os, h.tape, h.output, h.size, fun k hk _ => h.block k (Nat.lt_of_lt_of_le hk hB)⟩
/-- block sb is a Ram: its words, the pages that are watched, those that were hit -/
structure RamIs (w : World) (sb bp bw bh N : Nat) (m : Nat → Int) (wt ht : Int → Bool) : Prop where
  c0 : w.cell? ⟨sb, 0, none⟩ = some (.map (some bp))
  c1 : w.cell? ⟨sb, 1, none⟩ = some (.map (some bw))
  c2 : w.cell? ⟨sb, 2, none⟩ = some (.map (some bh))
  pw : bp ≠ bw
  ph : bp ≠ bh
  wh : bw ≠ bh
  sp : sb ≠ bp
  sh : sb ≠ bh
  ps : PagesAt w bp N m
  ws : SetAt w bw N wt
  hs : SetAt w bh N ht
  mb : ∀ i, 0 ≤ m i ∧ m i < 4294967296
theorem RamIs.grow {w w' : World} {sb bp bw bh N : Nat} {m : Nat → Int} {wt ht : Int → Bool} (R : RamIs w sb bp bw bh N m wt ht) (hg : w.grownBy w' none) : RamIs w' sb bp bw bh N m wt ht :=
  ⟨hg.cell R.c0 (by simp), hg.cell R.c1 (by simp), hg.cell R.c2 (by simp), R.pw, R.ph, R.wh, R.sp, R.sh, R.ps.kept hg (by simp), R.ws.kept hg (by simp), R.hs.kept hg (by simp), R.mb⟩
theorem RamIs.stays {B : Nat} {w w' : World} {sb bp bw bh N : Nat} {m : Nat → Int} {wt ht : Int → Bool} (R : RamIs w sb bp bw bh N m wt ht) (h : Below B w w') (hB : w.heap.size ≤ B) : RamIs w' sb bp bw bh N m wt ht :=
  R.grow (grown_of_below h hB)
theorem wf_i64 {n : Int} (h0 : -9223372036854775808 ≤ n) (h1 : n ≤ 9223372036854775807) : (Lit.int .i64 n).wf = true := by
  simp [Lit.wf, IntKind.min, IntKind.max, IntKind.signed, IntKind.bits]; omega
theorem key3 {n : Int} (h0 : -9223372036854775808 ≤ n) (h1 : n ≤ 9223372036854775807) : keyOf Tryz.prog 3 (.int .i64 n) = some (.int .i64 n) := keyOf_int_mk Tryz.underlying3 (wf_i64 h0 h1)
/-- a page, looked up -/
theorem PagesAt.look {w : World} {b N : Nat} {m : Nat → Int} (h : PagesAt w b N m) (n : Nat) (hn : n < 64) : (Instr.lookup 102 (.map (some b)) (.int .i64 n) false).run Tryz.prog w = .ok (.agg (pgA m n)) w := by
  obtain ⟨D, h1, h2⟩ := h
  obtain ⟨v, ps, hrun, hv⟩ := h1.lookup law3 Tryz.underlying102 (zero61 w) (zd := .held (.agg zeroPg)) (zp := []) rfl (key3 (n := n) (by omega) (by omega))
  rw [h2 n hn] at hv
  simp only [heldE, Option.some.injEq, Prod.mk.injEq, DataW.held.injEq] at hv
  rw [hrun, hv.1]
theorem SetAt.look {w : World} {b N : Nat} {s : Int → Bool} (h : SetAt w b N s) (n : Int) (h0 : -9223372036854775808 ≤ n) (h1 : n ≤ 9223372036854775807) : (Instr.lookup 103 (.map (some b)) (.int .i64 n) true).run Tryz.prog w = .ok (.tuple #[.agg #[], .bool (s n)]) w := by
  obtain ⟨D, g1, g2⟩ := h
  obtain ⟨v, ps, hrun, hv⟩ := g1.look_ok law3 Tryz.underlying103 (zero64 w) (zd := .agg []) (zp := []) unitElem_mk (key3 h0 h1)
  obtain ⟨rfl, _⟩ := unitElem_inv hv
  rw [hrun, g2 n]
theorem isKey_i64 {n : Int} : WideAt.IsKeyLit (.int .i64 n) := by trivial
theorem lit_ne {a b : Int} (h : a ≠ b) : (Lit.int .i64 a) ≠ .int .i64 b := by intro e; cases e; exact h rfl
/-- a page, laid -/
theorem PagesAt.put {w w' : World} {b N n : Nat} {m m' : Nat → Int} (hm : ∀ k : Nat, k < 64 → k ≠ n → pgA m' k = pgA m k) {D : DataW Value} (h2 : ∀ n : Nat, n < 64 → D.atKey (.int .i64 n) (.held (.agg zeroPg)) = .held (.agg (pgA m n))) (hD : IsMap D)
    (h1 : w'.ownsMap Tryz.prog 3 heldE b N (D.put (.int .i64 n) (.held (.agg (pgA m' n))))) : PagesAt w' b N m' := by
  refine ⟨_, h1, fun k hk => ?_⟩
  by_cases e : k = n
  · subst e; exact atKey_put_same hD isKey_i64 _ _
  · rw [atKey_put_other (lit_ne (by omega)), h2 k hk, hm k hk e]
theorem SetAt.put {w' : World} {b N : Nat} {n : Int} {s : Int → Bool} {D : DataW Unit} (h2 : ∀ x : Int, Maps.has D (.int .i64 x) = s x) (hD : IsMap D) (h1 : w'.ownsMap Tryz.prog 3 unitElem b N (D.put (.int .i64 n) (.agg []))) : SetAt w' b N (fun x => if x = n then true else s x) := by
  refine ⟨_, h1, fun x => ?_⟩
  show Maps.has _ _ = if x = n then true else s x
  by_cases e : x = n
  · subst e; rw [if_pos rfl]; exact has_put_same hD isKey_i64 _
  · rw [if_neg e, has_put_other (lit_ne e), h2]
end Go.Proofs.YtflagpkmebdckaaGreatDoor
/-
  Load.
-/
namespace Go.Proofs.YtflagpkmebdckaaGreatDoor
open Go.RowKit Go.Maps
open Num
set_option linter.unusedVariables false
theorem run_index (m : Nat → Int) (n i : Nat) (h : i < 64) (w : World) : (Instr.index 101 (.agg (pgA m n)) (.int .i64 i)).run Tryz.prog w = .ok (.int .u32 (m (64 * n + i))) w := by
  have e1 : (sizeOf 22).run Tryz.prog w = .ok 1 w := by kernel_rfl
  have hg := pgA_get m n i h
  simp [Instr.index, run_underlying Tryz.underlying101, e1, h, part, hg, go_sem]
set_option maxHeartbeats 1000000 in
theorem load_ok {w : World} {sb bp bw bh N : Nat} {m : Nat → Int} {wt ht : Int → Bool} (R : RamIs w sb bp bw bh N m wt ht) (a s : Int) (sg : Bool) (h0 : 0 ≤ a) (h1 : a < 4294967296) (hc : chk a s = 0) :
    Calls Tryz.prog 88 #[.pointer (some ⟨sb, 0, none⟩), .int .u32 a, .int .i64 s, .bool sg] w fun e w' => e = .returned (.tuple #[.int .u32 (ld m a s sg), .nilIface]) ∧ ∃ n, w' = w.drewN n := by
  obtain ⟨hs, hm, hf⟩ := chk_ok hc
  have c0 := R.c0
  have hlook : ∀ n, (Instr.lookup 102 (.map (some bp)) (.int .i64 (a / 256)) false).run Tryz.prog (w.drewN n) = .ok (.agg (pgA m (a / 256).toNat)) (w.drewN n) := by
    intro n
    have hp : PagesAt (w.drewN n) bp N m := R.ps
    have := hp.look (a / 256).toNat (by omega)
    rwa [Int.toNat_of_nonneg (by omega)] at this
  have hidx : ∀ w, (Instr.index 101 (.agg (pgA m (a / 256).toNat)) (.int .i64 (a % 256 / 4))).run Tryz.prog w = .ok (.int .u32 (m (a / 4).toNat)) w := by
    intro w
    have := run_index m (a / 256).toNat (a % 256 / 4).toNat (by omega) w
    rwa [Int.toNat_of_nonneg (by omega), show 64 * (a / 256).toNat + (a % 256 / 4).toNat = (a / 4).toNat by omega] at this
  have hck := fun w => check_ok a s h0 h1 hc w
  have hbits := fun w => bits_any a s h0 h1 hc w
  have hb0 : 0 ≤ bhd a s ∧ bhd a s ≤ 24 := by unfold bhd; rcases hs with rfl | rfl | rfl <;> omega
  obtain ⟨b0, b1⟩ := hb0
  have mb := R.mb (a / 4).toNat
  have hs' : 1 ≤ s ∧ s ≤ 4 := by omega
  have W1 : Hid (0 ≤ m (a / 4).toNat / 2 ^ (bhd a s).toNat ∧ m (a / 4).toNat / 2 ^ (bhd a s).toNat < 4294967296) := by
    have := ediv_bd (d := 2 ^ (bhd a s).toNat) mb.1 (Int.pow_pos (by omega)); exact ⟨this.1, by omega⟩
  obtain ⟨s0, s1⟩ := hs'
  clear R hs hm hf hc
  go_enter Tryz.func88, Tryz.ntmps88
  go_wp2_with (go_at_call 37; refine (hck _).mono ?_; rintro e w' ⟨rfl, rfl⟩)
  go_quiet ((first | (go_at_call 39; exact Calls.quiet_of_same (pageOf_any _ h0 h1 _)) | (go_at_call 40; exact Calls.quiet_of_same (wordOf_any _ h0 h1 _))))
  go_wp2_with (first | (go_at_call 41; refine (hbits _).mono ?_; rintro e w' ⟨rfl, rfl⟩) | (go_at_call 42; refine (wide_any _ _ _ W1.out.1 W1.out.2 _).mono ?_; rintro e w' ⟨rfl, rfl⟩))
  go_ret2
  exact ⟨rfl, nq, rfl⟩
set_option maxHeartbeats 1000000 in
theorem load_no (ps pa pf : Addr) {w : World} (E : Er ps pa pf w) (v : Value) (a s : Int) (sg : Bool) (h0 : 0 ≤ a) (h1 : a < 4294967296) (s0 : -9223372036854775808 ≤ s) (s1 : s ≤ 9223372036854775807) (hc : chk a s ≠ 0) :
    Calls Tryz.prog 88 #[v, .int .u32 a, .int .i64 s, .bool sg] w fun e w' => e = .returned (.tuple #[.int .u32 0, .iface 332 (.pointer (some (erA ps pa pf (chk a s))))]) ∧ w' = w := by
  have hck := check_no ps pa pf a s h0 h1 s0 s1 hc w E
  clear E hc
  go_enter Tryz.func88, Tryz.ntmps88
  go_wp2_with (go_at_call 37; refine hck.mono ?_; rintro e w' ⟨rfl, rfl⟩)
  go_ret2
  exact ⟨rfl, rfl⟩
end Go.Proofs.YtflagpkmebdckaaGreatDoor
/-
  Watched.
-/
namespace Go.Proofs.YtflagpkmebdckaaGreatDoor
open Go.RowKit Go.Maps
open Num
set_option linter.unusedVariables false
theorem below_drew {B : Nat} {w w' : World} (h : Below B w w') : Below B w w'.drew := ⟨h.os, h.tape, h.output, h.size, h.block⟩
set_option maxRecDepth 100000 in
set_option maxHeartbeats 4000000 in
theorem watched_any {w : World} {sb bp bw bh N : Nat} {m : Nat → Int} {wt ht : Int → Bool} (R : RamIs w sb bp bw bh N m wt ht) (a : Int) (h0 : 0 ≤ a) (h1 : a < 4294967296) :
    Calls Tryz.prog 43 #[.pointer (some ⟨sb, 0, none⟩), .int .u32 a] w fun e w' => e = .returned (.bool (wt (a / 256))) ∧ Below w.heap.size w w' := by
  have c1 := R.c1
  have hz : sb < w.heap.size := World.block_lt_of_cell? _ _ c1
  have hlook : (Instr.lookup 103 (.map (some bw)) (.int .i64 (a / 256)) true).run Tryz.prog w.drew = .ok (.tuple #[.agg #[], .bool (wt (a / 256))]) w.drew := by
    have hp : SetAt w.drew bw N wt := R.ws
    exact hp.look (a / 256) (by omega) (by omega)
  have hlook2 : (Instr.lookup 103 (.map (some bw)) (.int .i64 (a / 256)) true).run Tryz.prog (w.alloc (.cells #[] 107)).drew = .ok (.tuple #[.agg #[], .bool (wt (a / 256))]) (w.alloc (.cells #[] 107)).drew := by
    have hp : SetAt (w.alloc (.cells #[] 107)) bw N wt := R.ws.kept (World.grownBy_alloc w _ none) (by simp)
    have hp : SetAt (w.alloc (.cells #[] 107)).drew bw N wt := hp
    exact hp.look (a / 256) (by omega) (by omega)
  clear R
  go_enter Tryz.func43, Tryz.ntmps43
  go_wp2_with fail
  go_region_with ((go_at_call 39; refine (pageOf_any _ h0 h1 _).mono ?_; rintro e w' ⟨rfl, rfl⟩))
  all_goals
    go_wp2
    go_ret
    exact ⟨rfl, below_drew ((Below.refl _ _).alloc (Nat.le_refl _) _)⟩
end Go.Proofs.YtflagpkmebdckaaGreatDoor
/-
  A Ram's maps, made where they are not there.
-/
namespace Go.Proofs.YtflagpkmebdckaaGreatDoor
open Go.RowKit Go.Maps
open Num
set_option linter.unusedVariables false
set_option maxRecDepth 100000 in
set_option maxHeartbeats 2000000 in
theorem ready_old {w : World} {sb bp bw bh N : Nat} {m : Nat → Int} {wt ht : Int → Bool} (R : RamIs w sb bp bw bh N m wt ht) :
    Calls Tryz.prog 38 #[.pointer (some ⟨sb, 0, none⟩)] w fun e w' => e = .returned (.tuple #[]) ∧ w' = w := by
  have c0 := R.c0
  have hq := fun w => run_eql_map_nil (P := Tryz.prog) w 102 _ _ (some bp) Tryz.underlying102
  clear R
  go_enter Tryz.func38, Tryz.ntmps38
  go_wp2
  go_end0
  exact ⟨rfl, rfl⟩
/-- memory as it is made first -/
theorem ram_made (w : World) : RamIs ((((w.alloc (.cells #[.map (some (w.heap.size + 1)), .map (some (w.heap.size + 1 + 1)), .map (some (w.heap.size + 1 + 1 + 1))] 105)).alloc (.map #[] 0)).alloc (.map #[] 0)).alloc (.map #[] 0)) w.heap.size (w.heap.size + 1) (w.heap.size + 2) (w.heap.size + 3) 0 (fun _ => 0) (fun _ => false) (fun _ => false) := by
  have hr := heap_alloc_new w (.cells #[.map (some (w.heap.size + 1)), .map (some (w.heap.size + 1 + 1)), .map (some (w.heap.size + 1 + 1 + 1))] 105)
  have hc : ∀ j v, (w.alloc (.cells #[.map (some (w.heap.size + 1)), .map (some (w.heap.size + 1 + 1)), .map (some (w.heap.size + 1 + 1 + 1))] 105)).cell? ⟨w.heap.size, j, none⟩ = some v → ((((w.alloc (.cells #[.map (some (w.heap.size + 1)), .map (some (w.heap.size + 1 + 1)), .map (some (w.heap.size + 1 + 1 + 1))] 105)).alloc (.map #[] 0)).alloc (.map #[] 0)).alloc (.map #[] 0)).cell? ⟨w.heap.size, j, none⟩ = some v := by
    intro j v h
    exact (World.grownBy_alloc _ _ none).cell ((World.grownBy_alloc _ _ none).cell ((World.grownBy_alloc _ _ none).cell h (by simp)) (by simp)) (by simp)
  refine ⟨hc _ _ (by rw [cell_of_row _ _ _ _ _ _ hr]; rfl), hc _ _ (by rw [cell_of_row _ _ _ _ _ _ hr]; rfl), hc _ _ (by rw [cell_of_row _ _ _ _ _ _ hr]; rfl), by omega, by omega, by omega, by omega, by omega, ?_, ?_, ?_, fun _ => by omega⟩
  · refine ⟨.map [], ?_, fun n hn => ?_⟩
    · have := ((World.ownsMap_made (w.alloc (.cells #[.map (some (w.heap.size + 1)), .map (some (w.heap.size + 1 + 1)), .map (some (w.heap.size + 1 + 1 + 1))] 105)) Tryz.prog 3 heldE).alloc (.map #[] 0)).alloc (.map #[] 0)
      simpa using this
    · show DataW.held (Value.agg zeroPg) = _
      unfold zeroPg
      rw [pgA_congr]
      intro i _; rfl
  · refine ⟨.map [], ?_, fun x => rfl⟩
    have := (World.ownsMap_made (H := Unit) ((w.alloc (.cells #[.map (some (w.heap.size + 1)), .map (some (w.heap.size + 1 + 1)), .map (some (w.heap.size + 1 + 1 + 1))] 105)).alloc (.map #[] 0)) Tryz.prog 3 unitElem).alloc (.map #[] 0)
    simpa using this
  · refine ⟨.map [], ?_, fun x => rfl⟩
    have := World.ownsMap_made (H := Unit) (((w.alloc (.cells #[.map (some (w.heap.size + 1)), .map (some (w.heap.size + 1 + 1)), .map (some (w.heap.size + 1 + 1 + 1))] 105)).alloc (.map #[] 0)).alloc (.map #[] 0)) Tryz.prog 3 unitElem
    simpa using this
set_option maxRecDepth 100000 in
set_option maxHeartbeats 2000000 in
theorem ready_new (w : World) :
    Calls Tryz.prog 38 #[.pointer (some ⟨w.heap.size, 0, none⟩)] (w.alloc (.cells #[.map none, .map none, .map none] 105)) fun e w' => e = .returned (.tuple #[]) ∧ RamIs w' w.heap.size (w.heap.size + 1) (w.heap.size + 2) (w.heap.size + 3) 0 (fun _ => 0) (fun _ => false) (fun _ => false) ∧ Below w.heap.size w w' := by
  have hmm := @run_makeMap Tryz.prog
  have hq := fun w => run_eql_map_nil (P := Tryz.prog) w 102 _ _ none Tryz.underlying102
  go_enter Tryz.func38, Tryz.ntmps38
  go_wp2
  go_end0
  exact ⟨rfl, ram_made w, (((Below.refl _ _).alloc (Nat.le_refl _) _).alloc (by simp) _ |>.alloc (by simp; omega) _).alloc (by simp; omega) _⟩
end Go.Proofs.YtflagpkmebdckaaGreatDoor
/-
  Store.
-/
namespace Go.Proofs.YtflagpkmebdckaaGreatDoor
open Go.RowKit Go.Maps
open Num
set_option linter.unusedVariables false
/-- w' is w but for two blocks, and new ones -/
structure Turned (w w' : World) (b c : Nat) : Prop where
  os : w'.os = w.os
  tape : w'.tape = w.tape
  output : w'.output = w.output
  size : w.heap.size ≤ w'.heap.size
  block : ∀ k, k < w.heap.size → k ≠ b → k ≠ c → w'.heap[k]? = w.heap[k]?
theorem Turned.below {w0 w w' : World} {B b c : Nat} (h : Turned w w' b c) (h0 : Below B w0 w) (hB : B ≤ w0.heap.size) (hb : B ≤ b) (hc : B ≤ c) : Below B w0 w' :=
  ⟨h.os.trans h0.os, h.tape.trans h0.tape, h.output.trans h0.output, Nat.le_trans h0.size h.size, fun k hk => (h.block k (by have := h0.size; omega) (by omega) (by omega)).trans (h0.block k hk)⟩
theorem Turned.of_below {w w2 w3 : World} {b c : Nat} (t : Turned w w2 b c) (h : Below w2.heap.size w2 w3) : Turned w w3 b c :=
  ⟨h.os.trans t.os, h.tape.trans t.tape, h.output.trans t.output, Nat.le_trans t.size h.size, fun k hk n1 n2 => (h.block k (Nat.lt_of_lt_of_le hk t.size)).trans (t.block k hk n1 n2)⟩
theorem Turned.of_grown {w w2 w3 : World} {b c d : Nat} (t : Turned w w2 b c) (h : w2.grownBy w3 (some d)) (hd : d = b ∨ d = c) : Turned w w3 b c :=
  ⟨h.os.trans t.os, h.tape.trans t.tape, h.output.trans t.output, Nat.le_trans t.size h.size, fun k hk n1 n2 => (h.block k (Nat.lt_of_lt_of_le hk t.size) (by intro e; injection e with e; rcases hd with hd | hd <;> omega)).trans (t.block k hk n1 n2)⟩
theorem grown_of_drew {W w2 : World} {r : Option Nat} (h : W.drew.grownBy w2 r) : W.grownBy w2 r := ⟨h.os, h.tape, h.output, h.size, h.block⟩
theorem RamIs.mono {w : World} {sb bp bw bh N N' : Nat} {m : Nat → Int} {wt ht : Int → Bool} (R : RamIs w sb bp bw bh N m wt ht) (h : N ≤ N') : RamIs w sb bp bw bh N' m wt ht :=
  ⟨R.c0, R.c1, R.c2, R.pw, R.ph, R.wh, R.sp, R.sh, R.ps.mono h, R.ws.mono h, R.hs.mono h, R.mb⟩
theorem RamIs.hits {w : World} {sb bp bw bh N : Nat} {m : Nat → Int} {wt ht ht' : Int → Bool} (R : RamIs w sb bp bw bh N m wt ht) (h : ∀ x, ht x = ht' x) : RamIs w sb bp bw bh N m wt ht' := by
  obtain rfl : ht = ht' := funext h
  exact R
/-- a row that was laid last, written anew -/
theorem setRow_new (w : World) (old cs : Array Value) (t : TypeId) : (w.alloc (.cells old t)).setRow w.heap.size cs = w.alloc (.cells cs t) := by
  unfold World.setRow World.alloc
  congr 1
  apply Array.ext
  · simp
  · intro k h1 h2
    simp only [Array.getElem_modify, Array.getElem_push]
    by_cases hk : k < w.heap.size
    · simp [hk]; omega
    · have : k = w.heap.size := by simp at h2; omega
      subst this; simp
theorem wpList_alloc61 {ops : Array Oper} {rest : List Oper} {o : Oper} {a : Act} {w : World} {Q : Exit → Act → World → Prop} (hg : o.guard = none) (hop : o.op = Op.alloc 101)
    (h : wpList Tryz.prog ops Q rest (a.put o.dst (.pointer (some ⟨w.heap.size, 0, none⟩))) (w.alloc (.cells zeroPg 101))) : wpList Tryz.prog ops Q (o :: rest) a w := by
  refine wpList_plain hg fun K hK => ?_
  unfold Oper.wp
  have e : (execOp a.eval o).run Tryz.prog w = .ok (.value (.pointer (some ⟨w.heap.size, 0, none⟩))) (w.alloc (.cells zeroPg 101)) := by
    unfold execOp; rw [hop]
    simp [Instr.alloc, newVar, newRow, Value.cells, go_sem]
    rfl
  rw [e, Oper.upon_value]
  exact hK _ _ h
theorem wpList_store61 {ops : Array Oper} {rest : List Oper} {o : Oper} {a : Act} {w : World} {Q : Exit → Act → World → Prop} (hgd : o.guard = none) (x y : Operand) (ho : o.op = .store 101 x y)
    (old cells : Array Value) (hx : a.eval x = .pointer (some ⟨w.heap.size, 0, none⟩)) (hy : a.eval y = .agg cells) (ho : old.size = 64) (hs : cells.size = 64) (h1 : cells.all (·.oneCell') = true)
    (h : wpList Tryz.prog ops Q rest (a.put o.dst undef) (w.alloc (.cells cells 101))) : wpList Tryz.prog ops Q (o :: rest) a (w.alloc (.cells old 101)) := by
  refine wpList_store_row hgd 101 x y ‹_› w.heap.size cells hx hy 101 old (heap_alloc_new w _) (by rw [info61, hs]) (by omega) h1 ?_
  rw [setRow_new]; exact h
theorem pgA_set (m m' : Nat → Int) (n i : Nat) (x : Int) (hi : i < 64) (hx : m' (64 * n + i) = x) (ho : ∀ j, j < 64 → j ≠ i → m' (64 * n + j) = m (64 * n + j)) : (pgA m n).setIfInBounds i (.int .u32 x) = pgA m' n := by
  apply Array.ext_getElem?
  intro k
  by_cases hk : k < 64
  · rw [pgA_get m' n k hk]
    by_cases e : i = k
    · subst e; rw [Array.getElem?_setIfInBounds_self, if_pos (by rw [pgA_size]; exact hk), hx]
    · rw [Array.getElem?_setIfInBounds_ne e, pgA_get m n k hk, ho k hk (Ne.symm e)]
  · rw [Array.getElem?_eq_none (by rw [Array.size_setIfInBounds, pgA_size]; omega), Array.getElem?_eq_none (by rw [pgA_size]; omega)]
theorem wpStill_load {P : Program} {ops : Array Oper} {w : World} {Q : Act → Prop} {a : Act} {o : Oper} {rest : List Oper} (hg : o.guard = none) (t : TypeId) (x : Operand) (ho : o.op = .load t x) (A : Addr) (hx : a.eval x = .pointer (some A)) (v : Value)
    (hrun : (loadVar t A).run P w = .ok v w) (h : wpStill P ops w Q rest (a.put o.dst v)) : wpStill P ops w Q (o :: rest) a := by
  refine wpStill_step fun K hK => ?_
  have hw : Region.wanted o (yielded ops a.tmps) = true := by simp [Region.wanted, hg]
  rw [if_pos hw]
  unfold Oper.still
  have e : (execOp a.eval o).run P w = .ok (.value v) w := by
    unfold execOp
    simp [ho, hx, Instr.loadAt, Instr.sureAddr, hrun]
  rw [e, Oper.stillUpon_value]
  exact hK _ h
theorem drew_lit (W : World) : ({ heap := W.heap, tape := W.tape, drawn := W.drawn + 1, os := W.os, output := W.output } : World) = W.drew := rfl
set_option maxRecDepth 100000 in
set_option maxHeartbeats 4000000 in
theorem store_ok {w : World} {sb bp bw bh N : Nat} {m : Nat → Int} {wt ht : Int → Bool} (R : RamIs w sb bp bw bh N m wt ht) (a s v : Int) (h0 : 0 ≤ a) (h1 : a < 4294967296) (v0 : 0 ≤ v) (v1 : v < 4294967296) (hN : N + 1 < maxLen) (hc : chk a s = 0) :
    Calls Tryz.prog 11 #[.pointer (some ⟨sb, 0, none⟩), .int .u32 a, .int .i64 s, .int .u32 v] w fun e w' => e = .returned .nilIface ∧ RamIs w' sb bp bw bh (N + 2) (upd m a s v) wt (fun x => if x = a / 256 ∧ wt (a / 256) = true then true else ht x) ∧ Turned w w' bp bh := by
  obtain ⟨hs, hm, hf⟩ := chk_ok hc
  have c0 := R.c0
  have c2 := R.c2
  have hz : sb < w.heap.size := World.block_lt_of_cell? _ _ c0
  have hlook : (Instr.lookup 102 (.map (some bp)) (.int .i64 (a / 256)) false).run Tryz.prog w = .ok (.agg (pgA m (a / 256).toNat)) w := by
    have := R.ps.look (a / 256).toNat (by omega)
    rwa [Int.toNat_of_nonneg (by omega)] at this
  have hcell : (w.alloc (.cells (pgA m (a / 256).toNat) 101)).cell? ⟨w.heap.size, (a % 256 / 4).toNat, none⟩ = some (.int .u32 (m (a / 4).toNat)) := by
    rw [cell_of_row _ _ _ _ _ _ (heap_alloc_new w _), pgA_get _ _ _ (by omega), show 64 * (a / 256).toNat + (a % 256 / 4).toNat = (a / 4).toNat by omega]
  have hck := fun w => check_ok a s h0 h1 hc w
  have hbits := fun w => bits_any a s h0 h1 hc w
  have hb0 : 0 ≤ bhd a s ∧ bhd a s ≤ 24 := by unfold bhd; rcases hs with rfl | rfl | rfl <;> omega
  obtain ⟨b0, b1⟩ := hb0
  have mb := R.mb (a / 4).toNat
  have hs' : 1 ≤ s ∧ s ≤ 4 := by omega
  obtain ⟨s0, s1⟩ := hs'
  have HS : Hid ((s = 1 ∨ s = 2 ∨ s = 4) ∧ a % s = 0) := ⟨hs, hm⟩
  have RH : Hid (RamIs w sb bp bw bh N m wt ht) := R
  clear R hs hm hc
  go_enter Tryz.func11, Tryz.ntmps11
  go_upto_region 9 with (first | (go_at_call 38; refine (ready_old RH.out).mono ?_; rintro e w' ⟨rfl, rfl⟩) | (refine wpList_alloc61 rfl rfl ?_) | (refine wpList_store61 rfl _ _ rfl zeroPg (pgA m (a / 256).toNat) rfl rfl (pgA_size _ _) (pgA_size _ _) (pgA_one _ _) ?_) | (go_at_call 37; refine (hck _).mono ?_; rintro e w' ⟨rfl, rfl⟩) | (go_at_call 39; refine (pageOf_any _ h0 h1 _).mono ?_; rintro e w' ⟨rfl, rfl⟩) | (go_at_call 40; refine (wordOf_any _ h0 h1 _).mono ?_; rintro e w' ⟨rfl, rfl⟩) | (go_at_call 41; refine (hbits _).mono ?_; rintro e w' ⟨rfl, rfl⟩) | (go_at_call 42; refine (wide_any _ _ _ (by omega) (by omega) _).mono ?_; rintro e w' ⟨rfl, rfl⟩))
  have hpg : ((pgA m (a / 256).toNat).setIfInBounds (a % 256 / 4).toNat (.int .u32 (bits .or .u32 (bits .andNot .u32 (m (a / 4).toNat) (wd 4294967295 (8 * s) false * 2 ^ (bhd a s).toNat % 4294967296)) (bits .and .u32 (v * 2 ^ (bhd a s).toNat % 4294967296) (wd 4294967295 (8 * s) false * 2 ^ (bhd a s).toNat % 4294967296))))) = pgA (upd m a s v) (a / 256).toNat := by
    rw [stw_all _ v a s HS.out.1 HS.out.2 mb.1 mb.2 v0]
    refine pgA_set m _ _ _ _ (by omega) ?_ (fun j hj hne => ?_)
    · unfold upd; rw [if_pos (by omega), show 64 * (a / 256).toNat + (a % 256 / 4).toNat = (a / 4).toNat by omega]
    · unfold upd; rw [if_neg (by omega)]
  rw [hpg]
  clear hpg hcell hlook hck hbits mb
  have hrow := heap_alloc_new w' (.cells (pgA (upd m a s v) (a / 256).toNat) 101)
  have C0 : (w'.alloc (.cells (pgA (upd m a s v) (a / 256).toNat) 101)).cell? ⟨sb, 0, none⟩ = some (.map (some bp)) := (World.grownBy_alloc w' _ none).cell c0 (by simp)
  have R1 : Hid (RamIs (w'.alloc (.cells (pgA (upd m a s v) (a / 256).toNat) 101)) sb bp bw bh N m wt ht) := RH.out.grow (World.grownBy_alloc w' _ none)
  have hB : Hid (w'.grownBy (w'.alloc (.cells (pgA (upd m a s v) (a / 256).toNat) 101)) none) := World.grownBy_alloc w' _ none
  have hload : (loadVar 101 ⟨w'.heap.size, 0, none⟩).run Tryz.prog (w'.alloc (.cells (pgA (upd m a s v) (a / 256).toNat) 101)).drew = .ok (.agg (pgA (upd m a s v) (a / 256).toNat)) (w'.alloc (.cells (pgA (upd m a s v) (a / 256).toNat) 101)).drew :=
    run_loadVar_row _ _ _ _ _ _ _ hrow Tryz.underlying101 rfl (by rw [info61, pgA_size])
  generalize w'.alloc (.cells (pgA (upd m a s v) (a / 256).toNat) 101) = W1 at *
  clear hrow
  have hk : Hid (keyOf Tryz.prog 3 (.int .i64 (a / 256)) = some (.int .i64 ((a / 256).toNat : Int))) := by
    show _ = _; rw [Int.toNat_of_nonneg (by omega)]; exact key3 (by omega) (by omega)
  refine wp_region_still_tail 6 (by kernel_rfl) (by kernel_rfl) ?_
  simp only [List.take_succ_cons, List.take_zero, List.drop_succ_cons, List.drop_zero, drew_lit]
  still_step
  still_step
  still_step
  still_step
  still_step
  refine wpStill_load rfl 101 _ rfl _ rfl _ hload ?_
  refine wpStill_nil ?_
  obtain ⟨D, hE1, hD2⟩ := R1.out.ps
  have hD1 : W1.drew.ownsMap Tryz.prog 3 heldE bp N D := hE1
  refine wpList_mapUpdate_own _ rfl _ _ _ 102 rfl 3 101 law3 Tryz.underlying102 heldE bp N D rfl hD1 (by omega) _ _ _ rfl rfl hk.out _ [] rfl ?_
  intro w2 hown2 hg2
  have G2 : Hid (W1.grownBy w2 (some bp)) := grown_of_drew hg2
  have R2 : RamIs w2 sb bp bw bh (N + 1) (upd m a s v) wt ht := by
    have r := R1.out
    have g := G2.out
    have hps : PagesAt w2 bp (N + 1) (upd m a s v) := by
      refine PagesAt.put (w := w2) (m := m) ?_ hD2 hE1.isMap hown2
      intro k hk hne
      apply pgA_congr
      intro i hi
      unfold upd; rw [if_neg (by omega)]
    exact ⟨g.cell r.c0 (by simp [r.sp]), g.cell r.c1 (by simp [r.sp]), g.cell r.c2 (by simp [r.sp]), r.pw, r.ph, r.wh, r.sp, r.sh, hps, (r.ws.kept g (by simp [Ne.symm r.pw])).mono (by omega), (r.hs.kept g (by simp [Ne.symm r.ph])).mono (by omega), upd_bd m a s v HS.out.1 HS.out.2 r.mb⟩
  have T2 : Hid (Turned w' w2 bp bh) := by
    have g1 := hB.out
    have g2 := G2.out
    exact ⟨g2.os.trans g1.os, g2.tape.trans g1.tape, g2.output.trans g1.output, Nat.le_trans g1.size g2.size, fun k hk n1 n2 => (g2.block k (Nat.lt_of_lt_of_le hk g1.size) (by simp [n1])).trans (g1.block k hk (by simp))⟩
  have RR : Hid (RamIs w2 sb bp bw bh (N + 1) (upd m a s v) wt ht) := R2
  clear R2 hown2 hg2 hD1 hE1 hD2 D hk hload hB C0 G2 R1 RH HS hf
  cases hw : wt (a / 256) with
  | false =>
    go_wp2_with (go_at_call 43; refine (watched_any RR.out a h0 h1).mono ?_; rintro e w3 ⟨rfl, hb3⟩)
    go_ret
    refine ⟨rfl, ?_, ?_⟩
    · exact ((RR.out.stays hb3 (Nat.le_refl _)).mono (by omega)).hits (fun x => by simp [hw])
    · exact T2.out.of_below hb3
  | true =>
    go_wp2_with fail
    refine (watched_any RR.out a h0 h1).mono ?_
    rintro e w3 ⟨rfl, hb3⟩
    rw [hw]
    have R3 := RR.out.stays hb3 (Nat.le_refl _)
    have c2' := R3.c2
    obtain ⟨D, hD1, hD2⟩ := R3.hs
    have hk := key3 (n := a / 256) (by omega) (by omega)
    have R3 : Hid (RamIs w3 sb bp bw bh (N + 1) (upd m a s v) wt ht) := R3
    go_wp2_with (at_mapUpdate; refine wpList_mapUpdate_own _ rfl _ _ _ 103 rfl 3 107 law3 Tryz.underlying103 unitElem bh (N + 1) D rfl hD1 hN _ _ _ rfl rfl hk (.agg []) [] unitElem_mk ?_; intro w4 hown4 hg4)
    go_ret
    refine ⟨rfl, ?_, ?_⟩
    · have r := R3.out
      have hs4 : SetAt w4 bh (N + 1 + 1) _ := SetAt.put hD2 hD1.isMap hown4
      exact ((⟨hg4.cell r.c0 (by simp [r.sh]), hg4.cell r.c1 (by simp [r.sh]), hg4.cell r.c2 (by simp [r.sh]), r.pw, r.ph, r.wh, r.sp, r.sh, (r.ps.kept hg4 (by simp [r.ph])).mono (by omega), (r.ws.kept hg4 (by simp [r.wh])).mono (by omega), hs4, r.mb⟩ : RamIs w4 sb bp bw bh (N + 2) (upd m a s v) wt _)).hits (fun x => by simp [hw])
    · exact (T2.out.of_below hb3).of_grown hg4 (Or.inr rfl)
end Go.Proofs.YtflagpkmebdckaaGreatDoor
