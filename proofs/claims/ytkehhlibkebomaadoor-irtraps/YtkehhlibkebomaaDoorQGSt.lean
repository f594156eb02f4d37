/-
  A Guest as a row of memory; Begin, Leave.
-/
import Derived.Laws.CopyOwn
import Derived.Test.YtkehhlibkebomaaDoorQIrGate
import Derived.Test.YtkehhlibkebomaaDoorQGOp
import Derived.Test.YtkehhlibkebomaaDoorQGOpen
namespace Go.Proofs.YtkehhlibkebomaaDoor
open Go.RowKit Go.Maps
open Num
set_option linter.unusedVariables false
/-- a row, some cells of it written by a copy -/
theorem RowIs.spliceAt {w : World} {b : Nat} {t : TypeId} {n : Nat} {f : Nat → Value} {cur : Array Value} (off : Nat) (h1 : w.heap[b]? = some (.cells cur t (0, 0))) (h2 : cur.size = n) (h3 : ∀ j, j < n → cur[j]? = some (f j)) (cs : List Value) (hn : off + cs.length ≤ n) (g : Nat → Value) (hg : ∀ j, j < cs.length → cs[j]? = some (g (off + j))) (ho : ∀ j, j < n → (j < off ∨ off + cs.length ≤ j) → g j = f j) :
    RowIs (w.setRow b (cur.toList.take off ++ (cs ++ cur.toList.drop (off + cs.length))).toArray) b t n g := by
  refine ⟨_, setRow_heap w b _ _ t _ h1, by simp [h2]; omega, fun j hj => ?_⟩
  rw [List.getElem?_toArray]
  by_cases h0 : j < off
  · rw [List.getElem?_append_left (by simp [h2]; omega), List.getElem?_take, if_pos h0, Array.getElem?_toList, h3 j hj, ho j hj (.inl h0)]
  · have hl : (cur.toList.take off).length = off := by simp [h2]; omega
    rw [List.getElem?_append_right (by rw [hl]; omega), hl]
    by_cases h : j - off < cs.length
    · rw [List.getElem?_append_left h, hg _ h, show off + (j - off) = j by omega]
    · rw [List.getElem?_append_right (by omega), List.getElem?_drop, show off + cs.length + (j - off - cs.length) = j by omega, Array.getElem?_toList, h3 j hj, ho j hj (.inr (by omega))]
theorem wp_copy_row {P : Program} {w : World} {o : Oper} {a : Act} {K : Act → World → Prop} {Q : Exit → Act → World → Prop} (d s : Operand) (dT sT : TypeId)
    (ho : o.op = .call { callee := .builtin .copy, args := #[d, s], argTypes := #[dT, sT] }) (elem : TypeId) (hu : P.underlying dT = some (.slice elem)) (hsz : (P.info? elem).map (·.size) = some 1)
    (g off dLen dCap : Nat) (ad : Addr) (sLen sCap : Nat) (hd : a.eval d = .slice (some ⟨g, off, none⟩) dLen dCap) (hs : a.eval s = .slice (some ad) sLen sCap)
    (cur : Array Value) (t : TypeId) (hg : w.heap[g]? = some (.cells cur t (0, 0))) (cs : List Value) (hn : cs.length = Nat.min sLen dLen)
    (hsrc : ∀ j v, cs[j]? = some v → w.cell? (ad.add j) = some v) (hfit : off + cs.length ≤ cur.size) (h1 : ∀ v ∈ cs, v.oneCell' = true)
    (h : K (a.put o.dst (goInt cs.length)) (w.setRow g (cur.toList.take off ++ (cs ++ cur.toList.drop (off + cs.length))).toArray)) : o.wp P a w K Q := by
  have hrun := run_copy_row (P := P) w dT sT o.type elem g off dLen dCap ad sLen sCap cur t cs hu hsz hg hn hsrc hfit h1
  unfold Oper.wp
  simp [execOp, ho, resolve, invoke, builtin, hd, hs, hrun, Result.andThen]
  exact h
theorem setRow_else (w : World) (g k : Nat) (cs : Array Value) (h : k ≠ g) : (w.setRow g cs).heap[k]? = w.heap[k]? := setRow_other w g k cs h
/-- the first words of a row, as a list -/
def xl (X : Nat → Int) (n : Nat) : List Value := (List.range n).map fun j => .int .u32 (X j)
theorem xl_len (X : Nat → Int) (n : Nat) : (xl X n).length = n := by simp [xl]
theorem xl_get (X : Nat → Int) (n j : Nat) (h : j < n) : (xl X n)[j]? = some (.int .u32 (X j)) := by simp [xl, List.getElem?_map, List.getElem?_range h]
theorem xl_one (X : Nat → Int) (n : Nat) : ∀ v ∈ xl X n, v.oneCell' = true := by
  intro v hv; obtain ⟨j, _, rfl⟩ := List.mem_map.1 hv; rfl
theorem xl_src {w : World} {b off : Nat} {X : Nat → Int} {n : Nat} (h : ∀ j, j < n → w.cell? ⟨b, off + j, none⟩ = some (.int .u32 (X j))) : ∀ j v, (xl X n)[j]? = some v → w.cell? ((⟨b, off, none⟩ : Addr).add j) = some v := by
  intro j v hv
  have hj : j < n := by have := (List.getElem?_eq_some_iff.1 hv).1; simpa [xl] using this
  rw [xl_get X n j hj] at hv
  have e : (⟨b, off, none⟩ : Addr).add j = ⟨b, off + j, none⟩ := by unfold Addr.add; split <;> simp_all
  rw [e, h j hj]; exact hv
theorem RamIs.blocks {w w' : World} {sb bp bw bh N : Nat} {m : Nat → Int} {wt ht : Int → Bool} (R : RamIs w sb bp bw bh N m wt ht) (h : ∀ k, k = sb ∨ k = bp ∨ k = bw ∨ k = bh → w'.heap[k]? = w.heap[k]?) : RamIs w' sb bp bw bh N m wt ht := by
  have hs := h sb (Or.inl rfl)
  have c : ∀ (j : Nat) (v : Value), w.cell? ⟨sb, j, none⟩ = some v → w'.cell? ⟨sb, j, none⟩ = some v := fun j v e => (World.cell?_of_block (a := ⟨sb, j, none⟩) hs).trans e
  refine ⟨c _ _ R.c0, c _ _ R.c1, c _ _ R.c2, R.pw, R.ph, R.wh, R.sp, R.sh, ?_, ?_, ?_, R.mb⟩
  · obtain ⟨D, ⟨es, clock, hb, r⟩, g⟩ := R.ps
    exact ⟨D, ⟨es, clock, (h bp (by simp)).trans hb, r⟩, g⟩
  · obtain ⟨D, ⟨es, clock, hb, r⟩, g⟩ := R.ws
    exact ⟨D, ⟨es, clock, (h bw (by simp)).trans hb, r⟩, g⟩
  · obtain ⟨D, ⟨es, clock, hb, r⟩, g⟩ := R.hs
    exact ⟨D, ⟨es, clock, (h bh (by simp)).trans hb, r⟩, g⟩
/-- what a Guest's cells hold -/
def gsV (stb : Nat) (X : Nat → Int) (sb : Nat) (vi : Value) (j : Nat) : Value := if j = 0 then .pointer (some ⟨stb, 0, none⟩) else if j < 65 then .int .u32 (X (j - 1)) else if j = 65 then .pointer (some ⟨sb, 0, none⟩) else vi
abbrev GRow (w : World) (mb stb sb : Nat) (X : Nat → Int) (vi : Value) : Prop := RowIs w mb 89 67 (gsV stb X sb vi)
/-- the registers that a Guest begins with -/
def begX (S : St) (j : Nat) : Int := if j < 32 then S.r j else if j = 32 then S.hi else if j = 33 then S.lo else 0
theorem GRow.gat {w : World} {base mb stb sb : Nat} {X : Nat → Int} (h : GRow w mb stb sb X (.slice none 0 0)) (lb : base ≤ mb) (xb : ∀ j, u32 (X j)) (bs : base ≤ w.heap.size) : GAt w base mb stb sb X [] (.slice none 0 0) :=
  ⟨fun j hj => by have := h.cell (j := 1 + j) (by omega); rw [this]; unfold gsV; rw [if_neg (by omega), if_pos (by omega), show 1 + j - 1 = j by omega], h.cell (j := 0) (by omega), h.cell (j := 65) (by omega), h.cell (j := 66) (by omega), fun j => h.fz j, World.ownsRow_nil _ _ _ _, lb, (fun k hk => by cases hk), xb, bs⟩
theorem guest_zero : Tryd.zeroCells89.toList = (List.range 67).map (fun j => if j = 0 then Value.pointer none else if j < 65 then .int .u32 0 else if j = 65 then .pointer none else .slice none 0 0) := by kernel_rfl
theorem guest_made (w : World) (stb sb : Nat) : GRow (w.alloc (.cells (((Tryd.zeroCells89.setIfInBounds 0 (.pointer (some ⟨stb, 0, none⟩))).setIfInBounds 65 (.pointer (some ⟨sb, 0, none⟩))).setIfInBounds 66 (.slice none 0 0)) 89)) w.heap.size stb sb (fun _ => 0) (.slice none 0 0) := by
  have hsz : Tryd.zeroCells89.size = 67 := by rw [← Array.length_toList, guest_zero]; simp
  refine ⟨_, heap_alloc_new w _, by simp [hsz], fun j hj => ?_⟩
  unfold gsV
  rw [Array.getElem?_setIfInBounds, Array.getElem?_setIfInBounds, Array.getElem?_setIfInBounds]
  by_cases e66 : 66 = j
  · subst e66; simp [hsz]
  · rw [if_neg e66]
    by_cases e65 : 65 = j
    · subst e65; simp [hsz]
    · rw [if_neg e65]
      by_cases e0 : 0 = j
      · subst e0; simp [hsz]
      · rw [if_neg e0, if_neg (Ne.symm e0), if_pos (by omega), ← Array.getElem?_toList, guest_zero, List.getElem?_map, List.getElem?_range hj]
        simp [Ne.symm e0, show j < 65 by omega]
set_option maxRecDepth 100000 in
set_option maxHeartbeats 4000000 in
theorem begin_ok {w : World} {stb sb : Nat} {S : St} (hS : StRow w stb S) (pc : Int) (p0 : 0 ≤ pc) (p1 : pc < 4294967296) (hsl : S.sl = false) (hpc : S.pc = pc) (hnx : S.nx = lo (pc + 4)) :
    Calls Tryd.prog 17 #[.int .u32 pc, .pointer (some ⟨stb, 0, none⟩), .pointer (some ⟨sb, 0, none⟩)] w fun e w' => ∃ mb, e = .returned (.tuple #[.pointer (some ⟨mb, 0, none⟩), .nilIface]) ∧ w.heap.size ≤ mb ∧ GRow w' mb stb sb (begX S) (.slice none 0 0) ∧ Below w.heap.size w w' := by
  have hA := hS.at
  obtain ⟨q32, q33, q34, q35, q36, _, _, _, _, _, q42⟩ := hA.told
  have SH : Hid (StRow w stb S) := hS
  rw [hsl] at q36
  rw [hpc] at q34
  rw [hnx] at q35
  have hlo : lo (pc + 4) = (pc + 4) % 4294967296 := rfl
  rw [hlo] at q35
  have hst := hS.lt
  clear hS hA hsl hpc hnx hlo
  have hM := guest_made w stb sb
  have hBA : Hid (Below w.heap.size w (w.alloc (.cells (((Tryd.zeroCells89.setIfInBounds 0 (.pointer (some ⟨stb, 0, none⟩))).setIfInBounds 65 (.pointer (some ⟨sb, 0, none⟩))).setIfInBounds 66 (.slice none 0 0)) 89))) := (Below.refl _ _).alloc (Nat.le_refl _) _
  have hSA : StRow (w.alloc (.cells (((Tryd.zeroCells89.setIfInBounds 0 (.pointer (some ⟨stb, 0, none⟩))).setIfInBounds 65 (.pointer (some ⟨sb, 0, none⟩))).setIfInBounds 66 (.slice none 0 0)) 89)) stb S := SH.out.stays ((Below.refl _ _).alloc (Nat.le_refl _) _)
  have hzA : (w.alloc (.cells (((Tryd.zeroCells89.setIfInBounds 0 (.pointer (some ⟨stb, 0, none⟩))).setIfInBounds 65 (.pointer (some ⟨sb, 0, none⟩))).setIfInBounds 66 (.slice none 0 0)) 89)).heap.size = w.heap.size + 1 := by simp
  go_enter Tryd.func17, Tryd.ntmps17
  go_upto_region 4 with fail
  generalize w.alloc (.cells (((Tryd.zeroCells89.setIfInBounds 0 (.pointer (some ⟨stb, 0, none⟩))).setIfInBounds 65 (.pointer (some ⟨sb, 0, none⟩))).setIfInBounds 66 (.slice none 0 0)) 89) = U at *
  generalize ((Tryd.zeroCells89.setIfInBounds 0 (.pointer (some ⟨stb, 0, none⟩))).setIfInBounds 65 (.pointer (some ⟨sb, 0, none⟩))).setIfInBounds 66 (.slice none 0 0) = Ag at *
  obtain ⟨cur, h1, h2, h3⟩ := hM
  refine wp_region_phase 9 [(0, 0), (1, 0), (2, 0), (3, 0), (4, 0), (5, 0), (6, 0), (7, 0), (8, 2)] (fun W => True) (by kernel_rfl) (by kernel_rfl) (fun _ _ _ d _ h => by cases d <;> exact h) trivial ?_
  repeat (refine wpPlanZ_free (by rfl) (by rfl) (fun W => by (go_simp; try with_reducible rfl)) (fun K hK => ?_); go_simp; refine hK _ ?_; clear hK K)
  refine wpPlanZ_serial (by rfl) (by rfl) (fun K hK => ?_)
  have hsr : ∀ j, j < 32 → U.drew.cell? ⟨stb, 0 + j, none⟩ = some (.int .u32 (S.r j)) := fun j hj => by have := hSA.cell (j := j) (by omega); rw [Nat.zero_add, show U.drew.cell? ⟨stb, j, none⟩ = U.cell? ⟨stb, j, none⟩ from rfl, this]; unfold stV; rw [if_pos hj]
  refine wp_copy_row _ _ 27 27 rfl 23 Tryd.underlying27 size23 w.heap.size 1 64 64 ⟨stb, 0, none⟩ 32 32 rfl rfl cur 89 h1 (xl S.r 32) (by rw [xl_len]; rfl) (xl_src hsr) (by rw [xl_len, h2]; omega) (xl_one _ _) ?_
  have hR1 : GRow (U.drew.setRow w.heap.size (cur.toList.take 1 ++ (xl S.r 32 ++ cur.toList.drop (1 + (xl S.r 32).length))).toArray) w.heap.size stb sb (fun j => if j < 32 then S.r j else 0) (.slice none 0 0) := by
    refine RowIs.spliceAt (w := U.drew) 1 h1 h2 h3 (xl S.r 32) (by rw [xl_len]; omega) _ (fun j hj => ?_) (fun j hj hl => ?_)
    · rw [xl_len] at hj; rw [xl_get _ _ _ hj]; unfold gsV; rw [if_neg (by omega), if_pos (by omega), show 1 + j - 1 = j by omega]; simp [hj]
    · rw [xl_len] at hl; unfold gsV
      by_cases e0 : j = 0
      · rw [if_pos e0, if_pos e0]
      · rw [if_neg e0, if_neg e0]; simp [show ¬ j - 1 < 32 by omega]
  have hO1 : ∀ k, k ≠ w.heap.size → (U.drew.setRow w.heap.size (cur.toList.take 1 ++ (xl S.r 32 ++ cur.toList.drop (1 + (xl S.r 32).length))).toArray).heap[k]? = U.heap[k]? := fun k hk => setRow_else U.drew w.heap.size k _ hk
  have hB1 : Hid (Below w.heap.size w (U.drew.setRow w.heap.size (cur.toList.take 1 ++ (xl S.r 32 ++ cur.toList.drop (1 + (xl S.r 32).length))).toArray)) := ⟨hBA.out.os, hBA.out.tape, hBA.out.output, by have := hBA.out.size; simp [World.setRow]; omega, fun k hk => (hO1 k (by omega)).trans (hBA.out.block k hk)⟩
  generalize U.drew.setRow w.heap.size (cur.toList.take 1 ++ (xl S.r 32 ++ cur.toList.drop (1 + (xl S.r 32).length))).toArray = V at *
  refine hK _ _ (fun _ => trivial) ?_
  clear hK K hsr
  refine wpPlanZ_nil ?_
  have hS1 : StRow V stb S := SH.out.stays hB1.out
  have c32 := hS1.at.told.1
  have c33 := hS1.at.told.2.1
  have x32 := hR1.cell (j := 33) (by omega)
  have x33 := hR1.cell (j := 34) (by omega)
  have f32 := hR1.fz 33
  have f33 := hR1.fz 34
  clear q32 q33 q34 q35 q36 q42
  go_upto_region 5 with fail
  refine wp_region_phase 13 [(0, 0), (1, 0), (2, 0), (3, 0), (4, 0), (5, 1), (6, 0), (7, 0), (8, 0), (9, 1), (10, 0), (11, 0), (12, 0), (14, 0), (15, 0), (13, 2), (16, 0), (17, 2)] (fun W => W.cell? ⟨stb, 32, none⟩ = some (.int .u32 S.hi) ∧ W.cell? ⟨stb, 33, none⟩ = some (.int .u32 S.lo)) (by kernel_rfl) (by kernel_rfl) (fun _ _ _ d _ h => by cases d <;> exact h) ⟨c32, c33⟩ ?_
  repeat (first | (refine wpPlanZ_free (by rfl) (by rfl) (fun W => by (go_simp; try with_reducible rfl)) (fun K hK => ?_); go_simp; refine hK _ ?_; clear hK K) | (refine wpPlanZ_quiet (by rfl) (by rfl) (fun W hW => by (obtain ⟨z0, z1⟩ := hW; go_simp; try with_reducible rfl)) (fun K hK => ?_); go_simp; refine hK _ ?_; clear hK K))
  refine wpPlanZ_serial (by rfl) (by rfl) (fun K hK => ?_)
  go_simp
  refine hK _ _ (fun h => absurd h (by decide)) ?_
  clear hK K
  repeat (refine wpPlanZ_free (by rfl) (by rfl) (fun W => by (go_simp; try with_reducible rfl)) (fun K hK => ?_); go_simp; refine hK _ ?_; clear hK K)
  refine wpPlanZ_serial (by rfl) (by rfl) (fun K hK => ?_)
  go_simp
  refine hK _ _ (fun h => absurd h (by decide)) ?_
  clear hK K
  refine wpPlanZ_nil ?_
  go_wp2
  go_ret2
  refine ⟨w.heap.size, rfl, Nat.le_refl _, ?_, ?_⟩
  · have r1 := hR1.put 33 (.int .u32 S.hi) (gsV stb (fun j => if j < 32 then S.r j else if j = 32 then S.hi else 0) sb (.slice none 0 0)) (by simp [gsV]) (fun j hj hn => by
      unfold gsV
      by_cases e0 : j = 0
      · rw [if_pos e0, if_pos e0]
      · have e : ¬ j - 1 = 32 := by omega
        simp [e])
    have r2 := r1.put 34 (.int .u32 S.lo) (gsV stb (begX S) sb (.slice none 0 0)) (by simp [gsV, begX]) (fun j hj hn => by
      unfold gsV begX
      by_cases e0 : j = 0
      · rw [if_pos e0, if_pos e0]
      · have e : ¬ j - 1 = 33 := by omega
        simp [e])
    exact r2
  · exact ((hB1.out.setCell (p := ⟨w.heap.size, 33, none⟩) (Nat.le_refl _) _).setCell (p := ⟨w.heap.size, 34, none⟩) (Nat.le_refl _) _).drew
theorem RowIs.splice0 {w : World} {b : Nat} {t : TypeId} {n : Nat} {f : Nat → Value} {cur : Array Value} (h1 : w.heap[b]? = some (.cells cur t (0, 0))) (h2 : cur.size = n) (h3 : ∀ j, j < n → cur[j]? = some (f j)) (cs : List Value) (hn : cs.length ≤ n) (g : Nat → Value) (hg : ∀ j, j < cs.length → cs[j]? = some (g j)) (ho : ∀ j, j < n → cs.length ≤ j → g j = f j) :
    RowIs (w.setRow b (cur.toList.take 0 ++ (cs ++ cur.toList.drop (0 + cs.length))).toArray) b t n g := by
  refine ⟨_, setRow_heap w b _ _ t _ h1, by simp [h2]; omega, fun j hj => ?_⟩
  rw [List.getElem?_toArray]
  simp only [List.take_zero, List.nil_append, Nat.zero_add]
  by_cases h : j < cs.length
  · rw [List.getElem?_append_left h]; exact hg j h
  · rw [List.getElem?_append_right (by omega), List.getElem?_drop, show cs.length + (j - cs.length) = j by omega, Array.getElem?_toList, h3 j hj, ho j hj (by omega)]
theorem stV_ct (S : St) (x : Int) (j : Nat) (h : j < 42) : stV { S with ct := x } j = stV S j := by
  have h' : j < 32 ∨ j = 32 ∨ j = 33 ∨ j = 34 ∨ j = 35 ∨ j = 36 ∨ j = 37 ∨ j = 38 ∨ j = 39 ∨ j = 40 ∨ j = 41 := by omega
  rcases h' with h' | rfl | rfl | rfl | rfl | rfl | rfl | rfl | rfl | rfl | rfl
  · unfold stV; rw [if_pos h', if_pos h']
  all_goals rfl
/-- the state behind a code that leaves -/
def leftS (S : St) (X : Nat → Int) (to many : Int) : St := { S with r := X, hi := X 32, lo := X 33, pc := to, nx := lo (to + 4), ct := S.ct + many }
section
variable {w : World} {base mb stb sb bp bw bh N : Nat} {X : Nat → Int} {p : List Pq} {vi : Value} {m : Nat → Int} {wt ht : Int → Bool}
theorem GAt.turn1 {w w' : World} (M : GAt w base mb stb sb X p vi) (b : Nat) (hb : b < base) (hs : w.heap.size ≤ w'.heap.size) (h : ∀ k, k ≠ b → w'.heap[k]? = w.heap[k]?) : GAt w' base mb stb sb X p vi :=
  M.blocks hs (fun k hk => h k (by
    rcases hk with rfl | hk
    · have := M.lb; omega
    · have := (M.blk k hk).2; omega))
theorem RamIs.turn1 {w w' : World} (R : RamIs w sb bp bw bh N m wt ht) (b : Nat) (h1 : sb ≠ b) (h2 : bp ≠ b) (h3 : bw ≠ b) (h4 : bh ≠ b) (h : ∀ k, k ≠ b → w'.heap[k]? = w.heap[k]?) : RamIs w' sb bp bw bh N m wt ht :=
  R.blocks (fun k hk => h k (by rcases hk with rfl | rfl | rfl | rfl <;> assumption))
set_option maxRecDepth 100000 in
set_option maxHeartbeats 4000000 in
theorem leave_any {S : St} (R : RamIs w sb bp bw bh N m wt ht) (G : GAt w base mb stb sb X p vi) (hS : StRow w stb S) (hp : p.length ≤ 1000) (hN : N ≤ 1000000) (hbp : bp < base) (hbh : bh < base) (hst : stb < base) (n1 : sb ≠ stb) (n2 : bp ≠ stb) (n3 : bw ≠ stb) (n4 : bh ≠ stb) (hwt : ∀ q ∈ pqs p, wt (q.a / 256) = false)
    (to many : Int) (t0 : 0 ≤ to) (t1 : to < 4294967296) (c0 : 0 ≤ S.ct) (c1 : S.ct ≤ 1152921504606846976) (m0 : 1 ≤ many) (m1 : many ≤ 24) :
    Calls Tryd.prog 20 #[.pointer (some ⟨mb, 0, none⟩), .int .u32 to, .int .i64 many] w fun e w' => e = .returned (.tuple #[]) ∧ StRow w' stb (leftS S X to many) ∧ RamIs w' sb bp bw bh (N + 2 * p.length) (vw m (pqs p)) wt ht ∧ w.heap.size ≤ w'.heap.size ∧ (∀ k, k < w.heap.size → k ≠ stb → k ≠ bp → k ≠ bh → w'.heap[k]? = w.heap[k]?) ∧ w'.os = w.os ∧ w'.tape = w.tape ∧ w'.output = w.output := by
  obtain ⟨cur, h1, h2, h3⟩ := hS
  have WH : Hid (∀ q ∈ pqs p, wt (q.a / 256) = false) := hwt
  have RH : Hid (RamIs w sb bp bw bh N m wt ht) := R
  have GH : Hid (GAt w base mb stb sb X p vi) := G
  have hms : mb ≠ stb := by have := G.lb; omega
  have s0 := G.s0
  clear hwt R G
  go_enter Tryd.func20, Tryd.ntmps20
  go_upto_region 1 with fail
  clear s0
  refine wp_region_phase 9 [(0, 0), (1, 0), (2, 0), (3, 0), (4, 0), (5, 0), (6, 0), (7, 0), (8, 2)] (fun W => True) (by kernel_rfl) (by kernel_rfl) (fun _ _ _ d _ h => by cases d <;> exact h) trivial ?_
  repeat (refine wpPlanZ_free (by rfl) (by rfl) (fun W => by (go_simp; try with_reducible rfl)) (fun K hK => ?_); go_simp; refine hK _ ?_; clear hK K)
  refine wpPlanZ_serial (by rfl) (by rfl) (fun K hK => ?_)
  have hsr : ∀ j, j < 32 → w.drew.cell? ⟨mb, 1 + j, none⟩ = some (.int .u32 (X j)) := fun j hj => GH.out.x j (by omega)
  refine wp_copy_row _ _ 27 27 rfl 23 Tryd.underlying27 size23 stb 0 32 32 ⟨mb, 1, none⟩ 64 64 rfl rfl cur 26 h1 (xl X 32) (by rw [xl_len]; rfl) (xl_src hsr) (by rw [xl_len, h2]; omega) (xl_one _ _) ?_
  have hS1 : StRow (w.drew.setRow stb (cur.toList.take 0 ++ (xl X 32 ++ cur.toList.drop (0 + (xl X 32).length))).toArray) stb { S with r := X } := by
    refine RowIs.splice0 (w := w.drew) h1 h2 h3 (xl X 32) (by rw [xl_len]; omega) _ (fun j hj => ?_) (fun j hj hl => ?_)
    · rw [xl_len] at hj; rw [xl_get _ _ _ hj]; unfold stV; rw [if_pos hj]
    · rw [xl_len] at hl; unfold stV; have : ¬ j < 32 := by omega
      simp [this]
  have hO1 : ∀ k, k ≠ stb → (w.drew.setRow stb (cur.toList.take 0 ++ (xl X 32 ++ cur.toList.drop (0 + (xl X 32).length))).toArray).heap[k]? = w.heap[k]? := fun k hk => setRow_else w.drew stb k _ hk
  have hz1 : (w.drew.setRow stb (cur.toList.take 0 ++ (xl X 32 ++ cur.toList.drop (0 + (xl X 32).length))).toArray).heap.size = w.heap.size := by simp [World.setRow]
  have ho1 : (w.drew.setRow stb (cur.toList.take 0 ++ (xl X 32 ++ cur.toList.drop (0 + (xl X 32).length))).toArray).os = w.os ∧ (w.drew.setRow stb (cur.toList.take 0 ++ (xl X 32 ++ cur.toList.drop (0 + (xl X 32).length))).toArray).tape = w.tape ∧ (w.drew.setRow stb (cur.toList.take 0 ++ (xl X 32 ++ cur.toList.drop (0 + (xl X 32).length))).toArray).output = w.output := ⟨rfl, rfl, rfl⟩
  generalize w.drew.setRow stb (cur.toList.take 0 ++ (xl X 32 ++ cur.toList.drop (0 + (xl X 32).length))).toArray = V at *
  refine hK _ _ (fun _ => trivial) ?_
  clear hK K hsr
  refine wpPlanZ_nil ?_
  go_upto_region 2 with fail
  have GV : Hid (GAt V base mb stb sb X p vi) := GH.out.turn1 stb hst (by omega) hO1
  have x32 := GV.out.x 32 (by omega)
  have x33 := GV.out.x 33 (by omega)
  have hA := hS1.at
  obtain ⟨q32, q33, q34, q35, _, _, _, _, _, _, q42⟩ := hA.told
  have f32 := hA.fz 32
  have f33 := hA.fz 33
  refine wp_region_phase 14 [(0, 0), (1, 0), (2, 0), (3, 0), (4, 0), (5, 0), (6, 1), (7, 0), (8, 0), (9, 0), (10, 0), (11, 1), (12, 0), (13, 0), (14, 2), (15, 0), (16, 0), (17, 2)] (fun W => W.cell? ⟨mb, 33, none⟩ = some (.int .u32 (X 32)) ∧ W.cell? ⟨mb, 34, none⟩ = some (.int .u32 (X 33))) (by kernel_rfl) (by kernel_rfl) (fun _ _ _ d _ h => by cases d <;> exact h) ⟨by simpa using x32, by simpa using x33⟩ ?_
  repeat (first | (refine wpPlanZ_free (by rfl) (by rfl) (fun W => by (go_simp; try with_reducible rfl)) (fun K hK => ?_); go_simp; refine hK _ ?_; clear hK K) | (refine wpPlanZ_quiet (by rfl) (by rfl) (fun W hW => by (obtain ⟨z0, z1⟩ := hW; go_simp; try with_reducible rfl)) (fun K hK => ?_); go_simp; refine hK _ ?_; clear hK K))
  refine wpPlanZ_serial (by rfl) (by rfl) (fun K hK => ?_)
  go_simp
  refine hK _ _ (fun h => absurd h (by decide)) ?_
  clear hK K
  repeat (first | (refine wpPlanZ_free (by rfl) (by rfl) (fun W => by (go_simp; try with_reducible rfl)) (fun K hK => ?_); go_simp; refine hK _ ?_; clear hK K))
  refine wpPlanZ_serial (by rfl) (by rfl) (fun K hK => ?_)
  go_simp
  refine hK _ _ (fun h => absurd h (by decide)) ?_
  clear hK K
  refine wpPlanZ_nil ?_
  have hS2 : StRow ((V.setCell ⟨stb, 32, none⟩ (.int .u32 (X 32))).setCell ⟨stb, 33, none⟩ (.int .u32 (X 33))).drew stb { S with r := X, hi := X 32, lo := X 33 } := by
    have r1 := hS1.put 32 (.int .u32 (X 32)) (stV { S with r := X, hi := X 32 }) rfl (fun j hj hn => by unfold stV; simp [hn])
    exact r1.put 33 (.int .u32 (X 33)) (stV { S with r := X, hi := X 32, lo := X 33 }) rfl (fun j hj hn => by unfold stV; simp [hn])
  have hO2 : ∀ k, k ≠ stb → (((V.setCell ⟨stb, 32, none⟩ (.int .u32 (X 32))).setCell ⟨stb, 33, none⟩ (.int .u32 (X 33))).drew).heap[k]? = w.heap[k]? := fun k hk => ((Below.heap_setCell _ ⟨stb, 33, none⟩ _ k hk).trans (Below.heap_setCell _ ⟨stb, 32, none⟩ _ k hk)).trans (hO1 k hk)
  have hz2 : (((V.setCell ⟨stb, 32, none⟩ (.int .u32 (X 32))).setCell ⟨stb, 33, none⟩ (.int .u32 (X 33))).drew).heap.size = w.heap.size := by simp [hz1]
  have ho2 : (((V.setCell ⟨stb, 32, none⟩ (.int .u32 (X 32))).setCell ⟨stb, 33, none⟩ (.int .u32 (X 33))).drew).os = w.os ∧ (((V.setCell ⟨stb, 32, none⟩ (.int .u32 (X 32))).setCell ⟨stb, 33, none⟩ (.int .u32 (X 33))).drew).tape = w.tape ∧ (((V.setCell ⟨stb, 32, none⟩ (.int .u32 (X 32))).setCell ⟨stb, 33, none⟩ (.int .u32 (X 33))).drew).output = w.output := ho1
  generalize ((V.setCell ⟨stb, 32, none⟩ (.int .u32 (X 32))).setCell ⟨stb, 33, none⟩ (.int .u32 (X 33))).drew = V2 at *
  clear q32 q33 q34 q35 q42 f32 f33 hA hS1 x32 x33 hz1 ho1
  have hA := hS2.at
  obtain ⟨_, _, q34, q35, _, _, _, _, _, _, q42⟩ := hA.told
  have f34 := hA.fz 34
  have f35 := hA.fz 35
  have f42 := hA.fz 42
  go_wp2_with fail
  have hS3 : StRow (((V2.setCell ⟨stb, 34, none⟩ (.int .u32 to)).setCell ⟨stb, 35, none⟩ (.int .u32 ((to + 4) % 4294967296))).setCell ⟨stb, 42, none⟩ (.int .i64 (S.ct + many))) stb (leftS S X to many) := by
    have r1 := hS2.put 34 (.int .u32 to) (stV { S with r := X, hi := X 32, lo := X 33, pc := to }) rfl (fun j hj hn => by unfold stV; simp [hn])
    have r2 := r1.put 35 (.int .u32 ((to + 4) % 4294967296)) (stV { S with r := X, hi := X 32, lo := X 33, pc := to, nx := lo (to + 4) }) rfl (fun j hj hn => by unfold stV; simp [hn])
    exact r2.put 42 (.int .i64 (S.ct + many)) (stV (leftS S X to many)) rfl (fun j hj hn => stV_ct { S with r := X, hi := X 32, lo := X 33, pc := to, nx := lo (to + 4) } (S.ct + many) j (by omega))
  have hO3 : ∀ k, k ≠ stb → (((V2.setCell ⟨stb, 34, none⟩ (.int .u32 to)).setCell ⟨stb, 35, none⟩ (.int .u32 ((to + 4) % 4294967296))).setCell ⟨stb, 42, none⟩ (.int .i64 (S.ct + many))).heap[k]? = w.heap[k]? := fun k hk => (((Below.heap_setCell _ ⟨stb, 42, none⟩ _ k hk).trans (Below.heap_setCell _ ⟨stb, 35, none⟩ _ k hk)).trans (Below.heap_setCell _ ⟨stb, 34, none⟩ _ k hk)).trans (hO2 k hk)
  have hz3 : (((V2.setCell ⟨stb, 34, none⟩ (.int .u32 to)).setCell ⟨stb, 35, none⟩ (.int .u32 ((to + 4) % 4294967296))).setCell ⟨stb, 42, none⟩ (.int .i64 (S.ct + many))).heap.size = w.heap.size := by simp [hz2]
  have ho3 : (((V2.setCell ⟨stb, 34, none⟩ (.int .u32 to)).setCell ⟨stb, 35, none⟩ (.int .u32 ((to + 4) % 4294967296))).setCell ⟨stb, 42, none⟩ (.int .i64 (S.ct + many))).os = w.os ∧ (((V2.setCell ⟨stb, 34, none⟩ (.int .u32 to)).setCell ⟨stb, 35, none⟩ (.int .u32 ((to + 4) % 4294967296))).setCell ⟨stb, 42, none⟩ (.int .i64 (S.ct + many))).tape = w.tape ∧ (((V2.setCell ⟨stb, 34, none⟩ (.int .u32 to)).setCell ⟨stb, 35, none⟩ (.int .u32 ((to + 4) % 4294967296))).setCell ⟨stb, 42, none⟩ (.int .i64 (S.ct + many))).output = w.output := ho2
  generalize ((V2.setCell ⟨stb, 34, none⟩ (.int .u32 to)).setCell ⟨stb, 35, none⟩ (.int .u32 ((to + 4) % 4294967296))).setCell ⟨stb, 42, none⟩ (.int .i64 (S.ct + many)) = V3 at *
  refine (gopen_any (RH.out.turn1 stb n1 n2 n3 n4 hO3) (GH.out.turn1 stb hst (by omega) hO3) hp hN hbp hbh WH.out).mono ?_
  rintro e w4 ⟨rfl, R4, t4⟩
  go_wp2
  go_end0
  refine ⟨rfl, hS3.block (t4.block stb (by rw [hz3]; exact (Array.getElem?_eq_some_iff.1 h1).1) (Ne.symm n2) (Ne.symm n4)), R4, by have := t4.size; omega, fun k hk k1 k2 k3 => (t4.block k (by omega) k2 k3).trans (hO3 k k1), t4.os.trans ho3.1, t4.tape.trans ho3.2.1, t4.output.trans ho3.2.2⟩
end
end Go.Proofs.YtkehhlibkebomaaDoor
