/-
  The document's region on its way; the kind and the instruction of a word, by the document.
-/
import Derived.Test.YtckcbnfobjmhpaaDoorQDNew
import Derived.Test.YtckcbnfobjmhpaaDoorKDecodeOf
namespace Go.Proofs.YtckcbnfobjmhpaaDoor
open Go.RowKit Go.Maps
open Num
set_option linter.unusedVariables false
theorem decodeOf_v (v : Int) (h0 : 0 ≤ v) (h1 : v < 4294967296) (w : World) :
    Calls Tryd.prog 49 #[.int .u32 v] w fun e w' => e = .returned (insV v) ∧ Below w.heap.size w w' := by
  refine (K.decodeOf_any v h0 h1 w).mono ?_
  rintro e w' ⟨k, hd, rfl, hb⟩
  obtain rfl := decK_of h0 h1 hd
  exact ⟨rfl, hb⟩
theorem fieldKind (a b c d e f : Value) (w : World) : (Instr.field 106 (.agg #[a, b, c, d, e, f]) 5).run Tryd.prog w = .ok f w := by kernel_rfl
set_option maxRecDepth 10000 in
set_option maxHeartbeats 1000000 in
theorem kindOf_nat (k : Nat) (hk : k < 54) (w : World) : Calls Tryd.prog 29 #[.int .i64 k] w fun e w' => e = .returned (.string ⟨(Tab.kind k).toArray⟩) ∧ Below w.heap.size w w' := by
  by_cases hz : k = 0
  · subst hz
    go_enter Tryd.func29, Tryd.ntmps29
    go_wp2
    go_ret
    exact ⟨rfl, Below.refl _ _⟩
  · have h0 : ((k : Int) == 0) = false := by simp; omega
    have e : Hid (K.kindR k = Tab.kind k) := by
      show K.kindR k = _
      unfold K.kindR; rw [if_neg hz]
    have hfk := fieldKind
    go_enter Tryd.func29, Tryd.ntmps29
    go_wp2_with fail
    refine (K.rowOf_in k (by omega) (by omega) _).mono ?_
    rintro e w' ⟨rfl, hb⟩
    go_wp2
    go_ret
    exact ⟨by rw [← e.out]; rfl, hb⟩
/-- the document's region on its way -/
structure XAt (w0 w : World) (xb : Nat) (pc : Int) (n : Nat) (m : Nat → Int) (vi : Value) : Prop where
  c0 : w.cell? ⟨xb, 0, none⟩ = some (.int .u32 pc)
  c1 : w.cell? ⟨xb, 1, none⟩ = some vi
  c2 : w.cell? ⟨xb, 2, none⟩ = some (.slice none 0 0)
  fz : ∀ j, w.frozen? ⟨xb, j, none⟩ = false
  row : w.ownsRow w0.heap.size 65 5 vi n (insL m pc n)
  be : Below w0.heap.size w0 w
  lf : w0.heap.size ≤ xb
  vb : ∀ k, vi.ownBlock = some k → k ≠ xb
section
variable {w0 w : World} {xb : Nat} {pc : Int} {n : Nat} {m : Nat → Int} {vi : Value}
theorem XAt.lt (F : XAt w0 w xb pc n m vi) : xb < w.heap.size := World.block_lt_of_cell? _ _ F.c0
theorem XAt.stays {w' : World} (F : XAt w0 w xb pc n m vi) (h : Below w.heap.size w w') : XAt w0 w' xb pc n m vi := by
  have c : ∀ j, w'.cell? ⟨xb, j, none⟩ = w.cell? ⟨xb, j, none⟩ := fun j => h.cell (p := ⟨xb, j, none⟩) F.lt
  exact ⟨(c 0).trans F.c0, (c 1).trans F.c1, (c 2).trans F.c2, fun j => (h.frozen (p := ⟨xb, j, none⟩) F.lt).trans (F.fz j), owns_blocks F.row (fun k hk => h.block k (owns_lt F.row k hk).2), F.be.trans (h.mono F.be.size), F.lf, F.vb⟩
theorem XAt.other {w' : World} {b : Nat} (F : XAt w0 w xb pc n m vi) (hb : w0.heap.size ≤ b) (h : Below b w w') (hx : xb < b) (hv : ∀ k, vi.ownBlock = some k → k < b) : XAt w0 w' xb pc n m vi := by
  have c : ∀ j, w'.cell? ⟨xb, j, none⟩ = w.cell? ⟨xb, j, none⟩ := fun j => h.cell (p := ⟨xb, j, none⟩) hx
  exact ⟨(c 0).trans F.c0, (c 1).trans F.c1, (c 2).trans F.c2, fun j => (h.frozen (p := ⟨xb, j, none⟩) hx).trans (F.fz j), owns_blocks F.row (fun k hk => h.block k (hv k hk)), F.be.trans (h.mono hb), F.lf, F.vb⟩
theorem XAt.len (F : XAt w0 w xb pc n m vi) : ∃ p c, vi = .slice p n c := by
  rcases F.row.2 with ⟨rfl, rfl⟩ | ⟨g, cap, cur, rfl, _⟩
  · exact ⟨none, 0, rfl⟩
  · exact ⟨_, _, rfl⟩
theorem XAt.put (F : XAt w0 w xb pc n m vi) {w1 : World} {v' : Value} (ho : w1.ownsRow w0.heap.size 65 5 v' (n + 1) (insL m pc n ++ insC (wAt m pc n))) (hg : w.grownBy w1 vi.ownBlock) (hm : Moved w vi v') :
    (w1.cell? ⟨xb, 1, none⟩ = some vi ∧ w1.frozen? ⟨xb, 1, none⟩ = false) ∧ XAt w0 (w1.setCell ⟨xb, 1, none⟩ v') xb pc (n + 1) m v' ∧ ∀ k, k < w.heap.size → k ≠ xb → vi.ownBlock ≠ some k → (w1.setCell ⟨xb, 1, none⟩ v').heap[k]? = w.heap[k]? := by
  have hk : ∀ k, k < w.heap.size → vi.ownBlock ≠ some k → w1.heap[k]? = w.heap[k]? := fun k hk h => hg.block k hk (fun e => h e.symm)
  have hs : w1.heap[xb]? = w.heap[xb]? := hk xb F.lt (fun e => F.vb xb e rfl)
  have c : ∀ (j : Nat) (v : Value), w.cell? ⟨xb, j, none⟩ = some v → w1.cell? ⟨xb, j, none⟩ = some v := fun j v e => (World.cell?_of_block (a := ⟨xb, j, none⟩) hs).trans e
  have f : ∀ j, w1.frozen? ⟨xb, j, none⟩ = false := fun j => (World.frozen?_of_block (a := ⟨xb, j, none⟩) hs).trans (F.fz j)
  have oth : ∀ (j : Nat) (v : Value), j ≠ 1 → w.cell? ⟨xb, j, none⟩ = some v → (w1.setCell ⟨xb, 1, none⟩ v').cell? ⟨xb, j, none⟩ = some v := fun j v hj e => by
    rw [World.cell?_setCell_other _ _ _ _ (by intro e; injection e with e1 e2; exact hj e2.symm)]; exact c j v e
  have blk : ∀ k, k ≠ xb → (w1.setCell ⟨xb, 1, none⟩ v').heap[k]? = w1.heap[k]? := fun k h => Below.heap_setCell w1 ⟨xb, 1, none⟩ v' k h
  have hv' : ∀ k, v'.ownBlock = some k → k ≠ xb := fun k e => by
    rcases hm k e with h | h
    · exact F.vb k h
    · have := F.lt; omega
  refine ⟨⟨c _ _ F.c1, f 1⟩, ⟨oth 0 _ (by omega) F.c0, World.cell?_setCell_same _ _ _ (c _ _ F.c1), oth 2 _ (by omega) F.c2, fun j => by rw [World.frozen?_setCell]; exact f j, ?_, ?_, F.lf, hv'⟩, fun k h1 h2 h3 => (blk k h2).trans (hk k h1 h3)⟩
  · rw [insL_succ]
    exact owns_blocks ho fun k e => blk k (hv' k e)
  · have hb : Below w0.heap.size w0 w1 := ⟨hg.os.trans F.be.os, hg.tape.trans F.be.tape, hg.output.trans F.be.output, Nat.le_trans F.be.size hg.size, fun k hk' => (hk k (Nat.lt_of_lt_of_le hk' F.be.size) (fun e => by have := (owns_lt F.row k e).1; omega)).trans (F.be.block k hk')⟩
    exact hb.setCell F.lf _
theorem XAt.start {w1 : World} (m : Nat → Int) : XAt w1 (w1.alloc (.cells #[.int .u32 pc, .slice none 0 0, .slice none 0 0] 56)) w1.heap.size pc 0 m (.slice none 0 0) :=
  ⟨by simp, by simp, by simp, fun j => by simp, ⟨rfl, Or.inl ⟨rfl, rfl⟩⟩, (Below.refl _ _).alloc (Nat.le_refl _) _, Nat.le_refl _, fun k h => by cases h⟩
theorem reg_load36 {w : World} {B : Nat} {a b c : Value} (h0 : w.cell? ⟨B, 0, none⟩ = some a) (h1 : w.cell? ⟨B, 1, none⟩ = some b) (h2 : w.cell? ⟨B, 2, none⟩ = some c) : (loadVar 56 ⟨B, 0, none⟩).run Tryd.prog w = .ok (.agg #[a, b, c]) w :=
  run_loadVar_mid w B 0 56 [a, b, c] _ (fun j v hv => by
    have hj : j < 3 := (List.getElem?_eq_some_iff.1 hv).1
    have : j = 0 ∨ j = 1 ∨ j = 2 := by omega
    rcases this with rfl | rfl | rfl
    · injection hv with e; subst e; exact h0
    · injection hv with e; subst e; exact h1
    · injection hv with e; subst e; exact h2) Tryd.underlying56 rfl (by kernel_rfl)
set_option maxRecDepth 100000 in
set_option maxHeartbeats 4000000 in
theorem formOf_bad {rb gb kb : Nat} (most : Int) (h0 : 0 ≤ pc) (h1 : pc < 4294967296) (h : fchk pc most ≠ 0) : Calls Tryd.prog 25 #[.pointer (some ⟨rb, 0, none⟩), .int .u32 pc, .int .i64 most] w fun e w' => e = .returned (.tuple #[reg0, .int .i64 (if fchk pc most = 2 then 2 else if fchk pc most = 3 then 9 else 10)]) ∧ Below w.heap.size w w' := by
  have hb : Below w.heap.size w (w.alloc (.cells #[.int .u32 0, .slice none 0 0, .slice none 0 0] 56)) := (Below.refl _ _).alloc (Nat.le_refl _) _
  have hz : (loadVar 56 ⟨w.heap.size, 0, none⟩).run Tryd.prog (w.alloc (.cells #[.int .u32 0, .slice none 0 0, .slice none 0 0] 56)) = .ok reg0 _ := reg_load36 (by simp) (by simp) (by simp)
  by_cases b1 : most < 1
  · have d1 : decide (most < 1) = true := decide_eq_true b1
    have hf : fchk pc most = 2 := by unfold fchk; rw [if_pos (Or.inl b1)]
    rw [show (if fchk pc most = 2 then (2 : Int) else if fchk pc most = 3 then 9 else 10) = 2 by rw [hf]; rfl]
    clear hf h
    go_enter Tryd.func25, Tryd.ntmps25
    go_wp2
    exact bodyPost_ret (results_cell1 Tryd.results25 _ _ _ (A := ⟨w.heap.size, 0, none⟩) rfl hz) rfl ⟨rfl, hb⟩
  · have d1 : decide (most < 1) = false := decide_eq_false b1
    by_cases b2 : 24 < most
    · have d2 : decide (24 < most) = true := decide_eq_true b2
      have hf : fchk pc most = 2 := by unfold fchk; rw [if_pos (Or.inr b2)]
      rw [show (if fchk pc most = 2 then (2 : Int) else if fchk pc most = 3 then 9 else 10) = 2 by rw [hf]; rfl]
      clear hf h
      go_enter Tryd.func25, Tryd.ntmps25
      go_wp2
      exact bodyPost_ret (results_cell1 Tryd.results25 _ _ _ (A := ⟨w.heap.size, 0, none⟩) rfl hz) rfl ⟨rfl, hb⟩
    · have d2 : decide (24 < most) = false := decide_eq_false b2
      by_cases b3 : pc % 4 = 0
      · have d3 : (pc % 4 != 0) = false := by simp [b3]
        by_cases b4 : 16384 ≤ pc
        · have d4 : decide (16384 ≤ pc) = true := decide_eq_true b4
          have hf : fchk pc most = 4 := by unfold fchk; rw [if_neg (by omega), if_neg (by omega), if_pos b4]
          rw [show (if fchk pc most = 2 then (2 : Int) else if fchk pc most = 3 then 9 else 10) = 10 by rw [hf]; rfl]
          clear hf h
          go_enter Tryd.func25, Tryd.ntmps25
          go_wp2
          exact bodyPost_ret (results_cell1 Tryd.results25 _ _ _ (A := ⟨w.heap.size, 0, none⟩) rfl hz) rfl ⟨rfl, hb⟩
        · exact absurd (by unfold fchk; rw [if_neg (by omega), if_neg (by omega), if_neg b4]) h
      · have d3 : (pc % 4 != 0) = true := by simp [b3]
        have hf : fchk pc most = 3 := by unfold fchk; rw [if_neg (by omega), if_pos b3]
        rw [show (if fchk pc most = 2 then (2 : Int) else if fchk pc most = 3 then 9 else 10) = 9 by rw [hf]; rfl]
        clear hf h
        go_enter Tryd.func25, Tryd.ntmps25
        go_wp2
        exact bodyPost_ret (results_cell1 Tryd.results25 _ _ _ (A := ⟨w.heap.size, 0, none⟩) rfl hz) rfl ⟨rfl, hb⟩
end
end Go.Proofs.YtckcbnfobjmhpaaDoor
