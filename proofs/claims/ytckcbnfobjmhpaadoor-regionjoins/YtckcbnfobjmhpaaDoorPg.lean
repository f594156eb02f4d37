/-
  The pages of a region, its length, how it ends; what it is asked of.
-/
import Derived.Test.YtckcbnfobjmhpaaDoorTake
import Derived.Great.Walk
namespace Go.Proofs.YtckcbnfobjmhpaaDoor
open Go.RowKit Go.Maps
open Num
set_option linter.unusedVariables false
theorem info3 : (Tryd.prog.info? 3).map (fun i => (i.zero, i.size, i.bytes)) = some (some (.int .i64 0), 1, 8) := by kernel_rfl
/-- numbers one behind the other -/
def pgV (a : Int) (k : Nat) : List Value := (List.range k).map fun i : Nat => .int .i64 (a + i)
theorem pgV_succ (a : Int) (k : Nat) : pgV a (k + 1) = pgV a k ++ [.int .i64 (a + k)] := by unfold pgV; rw [List.range_succ, List.map_append]; rfl
theorem pgV_len (a : Int) (k : Nat) : (pgV a k).length = k := by simp [pgV]
/-- how many pages -/
def cntP (pc : Int) (n : Nat) : Nat := ((pc + 4 * n - 1) / 256 - pc / 256 + 1).toNat
section
variable {w : World}
set_option maxHeartbeats 1000000 in
theorem len_any (pc : Int) (p : Option Addr) (n c : Nat) (q : Option Addr) (l c2 : Nat) (hn : n ≤ 10000) : Calls Tryd.prog 30 #[.agg #[.int .u32 pc, .slice p n c, .slice q l c2]] w fun e w' => e = .returned (.int .i64 (4 * n)) ∧ Below w.heap.size w w' := by
  have hn' : (n : Int) ≤ 10000 := by omega
  go_enter Tryd.func30, Tryd.ntmps30
  go_wp2
  go_ret
  exact ⟨rfl, (Below.refl _ _).alloc (Nat.le_refl _) _⟩
set_option maxRecDepth 100000 in
set_option maxHeartbeats 4000000 in
theorem pagesOf_any (pc : Int) (h0 : 0 ≤ pc) (h1 : pc < 16384) (p : Option Addr) (n c : Nat) (q : Option Addr) (l c2 : Nat) (hn0 : 1 ≤ n) (hn : n ≤ 24) :
    Calls Tryd.prog 47 #[.agg #[.int .u32 pc, .slice p n c, .slice q l c2]] w fun e w' => ∃ vp, e = .returned vp ∧ w'.ownsRow w.heap.size 3 1 vp (cntP pc n) (pgV (pc / 256) (cntP pc n)) ∧ Below w.heap.size w w' := by
  obtain ⟨i0, hi, hz0, hz1, hz2⟩ := info_parts info3
  have hlen := fun W => len_any (w := W) pc p n c q l c2 (by omega)
  have hn' : (n : Int) ≤ 24 := by omega
  have hn1 : 1 ≤ (n : Int) := by omega
  have hcn : (cntP pc n : Int) = (pc + 4 * n - 1) / 256 - pc / 256 + 1 := by unfold cntP; omega
  have hc3 : cntP pc n ≤ 3 := by unfold cntP; omega
  generalize cntP pc n = cnt at *
  go_enter Tryd.func47, Tryd.ntmps47
  go_wp2_with fail
  refine (hlen _).mono ?_
  rintro e w1 ⟨rfl, hb⟩
  clear hlen
  have hb1 : Hid (Below w.heap.size w w1) := ((Below.refl _ _).alloc (Nat.le_refl _) _).trans (hb.mono (by simp))
  clear hb
  go_wp2
  go_loopw [5, 6] (fun vs iv wr => ∃ j : Nat, j ≤ cnt ∧ iv = .int .i64 (pc / 256 + j) ∧ wr.ownsRow w.heap.size 3 1 vs j (pgV (pc / 256) j) ∧ Below w.heap.size w wr) (fun _ iv _ => cnt - (intOf iv - pc / 256).toNat)
  case atStart => exact ⟨0, by omega, by simp, ⟨rfl, Or.inl ⟨rfl, rfl⟩⟩, hb1.out⟩
  case round =>
    obtain ⟨j, hj, rfl, hrow, hbr⟩ := hrel
    have hj3 : (j : Int) ≤ 3 := by omega
    by_cases hlt : j < cnt
    · have hle : decide (pc / 256 + (j : Int) ≤ (pc + 4 * (n : Int) - 1) / 256) = true := by simp; omega
      have hrow2 := hrow.alloc (.cells #[.int .i64 (pc / 256 + j)] 3)
      have hnews : ∀ i u, ([.int .i64 (pc / 256 + j)] : List Value)[i]? = some u → (wr.alloc (.cells #[.int .i64 (pc / 256 + j)] 3)).cell? ((⟨wr.heap.size, 0, none⟩ : Addr).add i) = some u := by
        intro i u h
        have hi0 : i = 0 := by have := (List.getElem?_eq_some_iff.1 h).1; simpa using this
        subst hi0
        rw [add_lit]; simp at h ⊢; exact h
      have hone : ∀ u ∈ ([.int .i64 (pc / 256 + j)] : List Value), u.oneCell' = true := by intro u h; simp at h; subst h; rfl
      have hsz := hbr.size
      have HB : Hid (Below w.heap.size w wr) := hbr
      clear hbr hrow hb1
      go_wp2_with (refine wpList_append_moved rfl _ _ 49 rfl w.heap.size 3 i0 _ 1 8 Tryd.underlying49 hi hz0 hz1 hz2 rfl (by decide) u5 j (pgV (pc / 256) j) rfl hrow2 ⟨wr.heap.size, 0, none⟩ 1 1 [.int .i64 (pc / 256 + j)] rfl rfl hnews hone (by unfold maxLen; omega) (by omega) (by simp; omega) ?_; intro v' w2 ho hg hm)
      go_roundw
      case rel =>
        refine ⟨j + 1, by omega, by go_num, by rw [pgV_succ]; exact ho, ?_⟩
        have hA : Below w.heap.size w (wr.alloc (.cells #[.int .i64 (pc / 256 + j)] 3)) := HB.out.alloc hsz _
        exact ⟨hg.os.trans hA.os, hg.tape.trans hA.tape, hg.output.trans hA.output, Nat.le_trans hA.size hg.size, fun k hk => (hg.block k (Nat.lt_of_lt_of_le hk hA.size) (fun e => by have := (owns_lt hrow2 k e.symm).1; omega)).trans (hA.block k hk)⟩
      case measure => simp [intOf]; omega
    · have hle : decide (pc / 256 + (j : Int) ≤ (pc + 4 * (n : Int) - 1) / 256) = false := by simp; omega
      obtain rfl : j = cnt := by omega
      clear hb1
      go_wp2
      go_ret
      exact ⟨_, rfl, hrow, hbr⟩
set_option maxHeartbeats 4000000 in
/-- how it ends: k: the last but one's operation -/
theorem ends_few (pc : Int) (p : Option Addr) (n c : Nat) (q : Option Addr) (l c2 : Nat) (hn : n < 2) : Calls Tryd.prog 31 #[.agg #[.int .u32 pc, .slice p n c, .slice q l c2]] w fun e w' => e = .returned (.string ⟨#[111, 110]⟩) ∧ Below w.heap.size w w' := by
  have hn' : decide (2 ≤ (n : Int)) = false := by simp; omega
  go_enter Tryd.func31, Tryd.ntmps31
  go_wp2
  go_ret
  exact ⟨rfl, (Below.refl _ _).alloc (Nat.le_refl _) _⟩
set_option maxRecDepth 100000 in
set_option maxHeartbeats 4000000 in
theorem ends_any (pc : Int) (g n c : Nat) (q : Option Addr) (l c2 : Nat) (hn : 2 ≤ n) (hn1 : n ≤ 24) (k : Nat) (hk : k < 54) (hc : w.cell? ⟨g, (n - 2) * 5, none⟩ = some (.int .i64 k)) : Calls Tryd.prog 31 #[.agg #[.int .u32 pc, .slice (some ⟨g, 0, none⟩) n c, .slice q l c2]] w fun e w' => e = .returned (.string (if Tab.kdL.getD k 0 = 2 then ⟨#[98, 114, 97, 110, 99, 104]⟩ else ⟨#[111, 110]⟩)) ∧ Below w.heap.size w w' := by
  have hn' : decide (2 ≤ (n : Int)) = true := by simp; omega
  have hgl : g < w.heap.size := World.block_lt_of_cell? _ _ hc
  have hc' : (w.alloc (.cells #[.int .u32 pc, .slice (some ⟨g, 0, none⟩) n c, .slice q l c2] 51)).cell? ⟨g, (n - 2) * 5, none⟩ = some (.int .i64 k) := by
    rw [World.cell?_alloc_lt _ _ _ hgl]; exact hc
  have hki := fun W => K.kind_nat k hk _ rfl W
  have hkk := knd_all k hk
  change ∀ W, Calls Tryd.prog 33 #[.int .i64 k] W fun e w' => e = .returned (.string ⟨(Tab.kwL.getD (Tab.kdL.getD k 0) []).toArray⟩) ∧ w' = W at hki
  generalize Tab.kdL.getD k 0 = kd at *
  have e1 : (n : Int) - 2 = ((n - 2 : Nat) : Int) := by omega
  have hlt : ((n - 2 : Nat) : Int) < n := by omega
  rcases hkk with rfl | rfl | rfl | rfl | rfl
  · rw [show Tab.kwL.getD 1 [] = [115, 117, 109] from rfl] at hki
    go_enter Tryd.func31, Tryd.ntmps31
    go_wp2_with fail
    refine (hki _).mono ?_
    rintro e wk ⟨rfl, hwk⟩
    rw [hwk]; clear hwk wk hki
    go_wp2
    go_ret
    exact ⟨rfl, (Below.refl _ _).alloc (Nat.le_refl _) _⟩
  · rw [show Tab.kwL.getD 2 [] = [98, 114, 97, 110, 99, 104] from rfl] at hki
    go_enter Tryd.func31, Tryd.ntmps31
    go_wp2_with fail
    refine (hki _).mono ?_
    rintro e wk ⟨rfl, hwk⟩
    rw [hwk]; clear hwk wk hki
    go_wp2
    go_ret
    exact ⟨rfl, (Below.refl _ _).alloc (Nat.le_refl _) _⟩
  · rw [show Tab.kwL.getD 3 [] = [116, 114, 97, 112] from rfl] at hki
    go_enter Tryd.func31, Tryd.ntmps31
    go_wp2_with fail
    refine (hki _).mono ?_
    rintro e wk ⟨rfl, hwk⟩
    rw [hwk]; clear hwk wk hki
    go_wp2
    go_ret
    exact ⟨rfl, (Below.refl _ _).alloc (Nat.le_refl _) _⟩
  · rw [show Tab.kwL.getD 4 [] = [108, 111, 97, 100] from rfl] at hki
    go_enter Tryd.func31, Tryd.ntmps31
    go_wp2_with fail
    refine (hki _).mono ?_
    rintro e wk ⟨rfl, hwk⟩
    rw [hwk]; clear hwk wk hki
    go_wp2
    go_ret
    exact ⟨rfl, (Below.refl _ _).alloc (Nat.le_refl _) _⟩
  · rw [show Tab.kwL.getD 5 [] = [115, 116, 111, 114, 101] from rfl] at hki
    go_enter Tryd.func31, Tryd.ntmps31
    go_wp2_with fail
    refine (hki _).mono ?_
    rintro e wk ⟨rfl, hwk⟩
    rw [hwk]; clear hwk wk hki
    go_wp2
    go_ret
    exact ⟨rfl, (Below.refl _ _).alloc (Nat.le_refl _) _⟩
/-- which error: 1 shape, 2 bound, 3 align, 4 far -/
def fchk (pc most : Int) : Nat := if most < 1 ∨ 24 < most then 2 else if pc % 4 ≠ 0 then 3 else if 16384 ≤ pc then 4 else 0
/-- the errors, by number; 5: none -/
def ferr (ps pb pa pf pn : Addr) (n : Nat) : Addr := if n = 1 then ps else if n = 2 then pb else if n = 3 then pa else if n = 4 then pf else pn
set_option maxHeartbeats 4000000 in
theorem check_nil (ps pa pf : Addr) (E : Er ps pa pf w) (pc most : Int) : Calls Tryd.prog 45 #[.pointer none, .int .u32 pc, .int .i64 most] w fun e w' => e = .returned (.iface 192 (.pointer (some ps))) ∧ w' = w := by
  have e1 := E.s
  clear E
  go_enter Tryd.func45, Tryd.ntmps45
  go_wp2
  go_ret
  exact ⟨rfl, rfl⟩
set_option maxHeartbeats 4000000 in
theorem check_bad (ps pa pf pk pb pn : Addr) (E : Er ps pa pf w) (T : K.Tb pk pb w) (sb : Nat) (pc most : Int) (h0 : 0 ≤ pc) (h1 : pc < 4294967296) (h : fchk pc most ≠ 0) : Calls Tryd.prog 45 #[.pointer (some ⟨sb, 0, none⟩), .int .u32 pc, .int .i64 most] w fun e w' => e = .returned (.iface 192 (.pointer (some (ferr ps pb pa pf pn (fchk pc most))))) ∧ w' = w := by
  have e2 := E.a
  have e3 := E.f
  have e4 := T.bound
  clear E T
  unfold fchk at h ⊢
  by_cases b1 : most < 1
  · rw [if_pos (Or.inl b1)]
    have : decide (most < 1) = true := decide_eq_true b1
    go_enter Tryd.func45, Tryd.ntmps45
    go_wp2
    go_ret
    exact ⟨rfl, rfl⟩
  · have d1 : decide (most < 1) = false := decide_eq_false b1
    by_cases b2 : 24 < most
    · rw [if_pos (Or.inr b2)]
      have : decide (24 < most) = true := decide_eq_true b2
      go_enter Tryd.func45, Tryd.ntmps45
      go_wp2
      go_ret
      exact ⟨rfl, rfl⟩
    · have d2 : decide (24 < most) = false := decide_eq_false b2
      rw [if_neg (by omega)] at h ⊢
      by_cases b3 : pc % 4 = 0
      · rw [if_neg (by omega)] at h ⊢
        have d3 : (pc % 4 != 0) = false := by simp [b3]
        by_cases b4 : 16384 ≤ pc
        · rw [if_pos b4]
          have d4 : decide (16384 ≤ pc) = true := decide_eq_true b4
          go_enter Tryd.func45, Tryd.ntmps45
          go_wp2
          go_ret
          exact ⟨rfl, rfl⟩
        · rw [if_neg b4] at h; exact absurd rfl h
      · rw [if_pos b3]
        have d3 : (pc % 4 != 0) = true := by simp [b3]
        go_enter Tryd.func45, Tryd.ntmps45
        go_wp2
        go_ret
        exact ⟨rfl, rfl⟩
set_option maxHeartbeats 4000000 in
theorem check_good (sb : Nat) (pc most : Int) (h0 : 0 ≤ pc) (h1 : pc < 16384) (h4 : pc % 4 = 0) (m0 : 1 ≤ most) (m1 : most ≤ 24) : Calls Tryd.prog 45 #[.pointer (some ⟨sb, 0, none⟩), .int .u32 pc, .int .i64 most] w fun e w' => e = .returned .nilIface ∧ w' = w := by
  have d1 : decide (most < 1) = false := by simp; omega
  have d2 : decide (24 < most) = false := by simp; omega
  have d3 : (pc % 4 != 0) = false := by simp [h4]
  have d4 : decide (16384 ≤ pc) = false := by simp; omega
  go_enter Tryd.func45, Tryd.ntmps45
  go_wp2
  go_ret
  exact ⟨rfl, rfl⟩
end
end Go.Proofs.YtckcbnfobjmhpaaDoor
