/-
  Memory of a place.
-/
import Derived.Test.YtkehhlibkebomaaDoorKOptPure2
import Derived.Test.YtkehhlibkebomaaDoorKSerial
import Derived.Test.YtkehhlibkebomaaDoorKMk5
import Derived.Test.YtkehhlibkebomaaDoorKOpsOf
import Derived.Test.YtkehhlibkebomaaDoorQGSt
import Derived.Test.YtkehhlibkebomaaDoorKRun1
import Derived.Test.YtkehhlibkebomaaDoorKGHost1
import Derived.Test.YtkehhlibkebomaaDoorKModel
namespace Go.Proofs.YtkehhlibkebomaaDoor
open Go.RowKit Go.Maps
open Num
set_option linter.unusedVariables false
section
variable {w : World} {sb bp bw bh N : Nat} {m : Nat → Int} {wt ht : Int → Bool}
/-- the pages that are watched, with one more -/
def wtOn (wt : Int → Bool) (n : Int) : Int → Bool := fun x => if x = n then true else wt x
set_option maxRecDepth 100000 in
set_option maxHeartbeats 2000000 in
theorem watch_no (pe : Nat → Addr) (E : Eg pe w) (v : Value) (n : Int) (hn : n < 0 ∨ 64 ≤ n) :
    Calls Tryd.prog 15 #[v, .int .i64 n, .bool true] w fun e w' => (∃ x, e = .returned x) ∧ w' = w := by
  have e2 := E.e2
  clear E
  rcases hn with hn | hn
  · go_enter Tryd.func15, Tryd.ntmps15
    go_wp2
    go_ret
    exact ⟨⟨_, rfl⟩, rfl⟩
  · have h0 : ¬ n < 0 := by omega
    go_enter Tryd.func15, Tryd.ntmps15
    go_wp2
    go_ret
    exact ⟨⟨_, rfl⟩, rfl⟩
set_option maxRecDepth 100000 in
set_option maxHeartbeats 2000000 in
theorem watch_on (R : RamIs w sb bp bw bh N m wt ht) (hsw : sb ≠ bw) (n : Int) (h0 : 0 ≤ n) (h1 : n < 64) (hN : N < maxLen) :
    Calls Tryd.prog 15 #[.pointer (some ⟨sb, 0, none⟩), .int .i64 n, .bool true] w fun e w' => (∃ x, e = .returned x) ∧ RamIs w' sb bp bw bh (N + 1) m (wtOn wt n) ht ∧ w.grownBy w' (some bw) := by
  have c1 := R.c1
  have RH : Hid (RamIs w sb bp bw bh N m wt ht) := R
  obtain ⟨D, hD1, hD2⟩ := R.ws
  have hk := key3 (n := n) (by omega) (by omega)
  have g0 : ¬ n < 0 := by omega
  have g1 : ¬ 64 ≤ n := by omega
  clear R
  go_enter Tryd.func15, Tryd.ntmps15
  go_wp2_with (first | (go_at_call 21; refine (ready_old RH.out).mono ?_; rintro e w' ⟨rfl, rfl⟩) | (at_mapUpdate; refine wpList_mapUpdate_own _ rfl _ _ _ 71 rfl 3 78 law3 Tryd.underlying71 unitElem bw N D rfl hD1 hN _ _ _ rfl rfl hk (.agg []) [] unitElem_mk ?_; intro w4 hown4 hg4))
  go_ret
  have r := RH.out
  have hs4 : SetAt w4 bw (N + 1) _ := SetAt.put hD2 hD1.isMap hown4
  refine ⟨⟨_, rfl⟩, ?_, hg4⟩
  exact ⟨hg4.cell r.c0 (by simp [hsw]), hg4.cell r.c1 (by simp [hsw]), hg4.cell r.c2 (by simp [hsw]), r.pw, r.ph, r.wh, r.sp, r.sh, (r.ps.kept hg4 (by simp [r.pw])).mono (by omega), hs4, (r.hs.kept hg4 (by simp [Ne.symm r.wh])).mono (by omega), r.mb⟩
end
/-- the pages that a place watches -/
def wtP (wc : Int) : Int → Bool := if 0 ≤ wc ∧ wc < 64 then wtOn (fun _ => false) wc else fun _ => false
set_option maxRecDepth 100000 in
set_option maxHeartbeats 2000000 in
theorem memory_any (pe : Nat → Addr) {w : World} (E : Eg pe w) (S : St) {v : Value} {xs : List Int} (X : WordsIn w v xs) (hx : xs.length ≤ 200) (wc : Int) :
    Calls Tryd.prog 9 #[.agg (plA S v wc)] w fun e w' => ∃ sb bp bw bh : Nat, e = .returned (.pointer (some ⟨sb, 0, none⟩)) ∧ RamIs w' sb bp bw bh 65 (mw xs) (wtP wc) (fun _ => false) ∧ Below w.heap.size w w' ∧ w.heap.size ≤ sb ∧ w.heap.size ≤ bp ∧ w.heap.size ≤ bw ∧ w.heap.size ≤ bh := by
  obtain ⟨ao, cap, hv, _, _⟩ := X.sh
  subst hv
  have hrow := pl_row w S (.slice ao xs.length cap) wc
  have k43 : (w.alloc (.cells (plA S (.slice ao xs.length cap) wc) 29)).cell? ⟨w.heap.size, 43, none⟩ = some (.slice ao xs.length cap) := hrow.cell (by omega)
  have k44 : (w.alloc (.cells (plA S (.slice ao xs.length cap) wc) 29)).cell? ⟨w.heap.size, 44, none⟩ = some (.int .i64 wc) := hrow.cell (j := 44) (by omega)
  have hB : Hid (Below w.heap.size w (w.alloc (.cells (plA S (.slice ao xs.length cap) wc) 29))) := (Below.refl _ _).alloc (Nat.le_refl _) _
  have X1 := X.stays hB.out
  have E1 : Hid (Eg pe (w.alloc (.cells (plA S (.slice ao xs.length cap) wc) 29))) := E.stays hB.out
  have hz : w.heap.size < (w.alloc (.cells (plA S (.slice ao xs.length cap) wc) 29)).heap.size := by simp
  have hnew := new_any X1 (by omega)
  clear hrow E X
  generalize plA S (.slice ao xs.length cap) wc = PA at *
  go_enter Tryd.func9, Tryd.ntmps9
  go_wp2_with fail
  generalize w.alloc (.cells PA 29) = V at *
  refine hnew.mono ?_
  rintro e w1 ⟨rfl, R1, b1⟩
  have y44 : w1.cell? ⟨w.heap.size, 44, none⟩ = some (.int .i64 wc) := (b1.cell (p := ⟨w.heap.size, 44, none⟩) hz).trans k44
  have B1 : Hid (Below w.heap.size w w1) := hB.out.trans (b1.mono (by omega))
  have E2 : Hid (Eg pe w1) := E1.out.stays b1
  have RH : Hid (RamIs w1 V.heap.size (V.heap.size + 1) (V.heap.size + 2) (V.heap.size + 3) 64 (mw xs) (fun _ => false) (fun _ => false)) := R1
  clear R1 b1 hnew k43 k44 X1
  by_cases hwc : 0 ≤ wc ∧ wc < 64
  · go_wp2_with fail
    refine (watch_on RH.out (by omega) wc hwc.1 hwc.2 (by unfold maxLen; omega)).mono ?_
    rintro e w2 ⟨⟨x, rfl⟩, R2, hg2⟩
    go_wp2
    go_ret
    refine ⟨V.heap.size, V.heap.size + 1, V.heap.size + 2, V.heap.size + 3, rfl, ?_, ?_, by omega, by omega, by omega, by omega⟩
    · unfold wtP; rw [if_pos hwc]; exact R2
    · exact below_grown B1.out hg2 (by omega) (Nat.le_refl _)
  · go_wp2_with fail
    refine (watch_no pe E2.out _ wc (by omega)).mono ?_
    rintro e w2 ⟨⟨x, rfl⟩, rfl⟩
    go_wp2
    go_ret
    refine ⟨V.heap.size, V.heap.size + 1, V.heap.size + 2, V.heap.size + 3, rfl, ?_, B1.out, by omega, by omega, by omega, by omega⟩
    unfold wtP; rw [if_neg hwc]; exact RH.out.mono (by omega)
end Go.Proofs.YtkehhlibkebomaaDoor
/-
  The closed fact of hosts; nil arguments, errors of Run; coded.
-/
namespace Go.Proofs.YtkehhlibkebomaaDoor
open Go.RowKit Go.Maps
open Num
set_option linter.unusedVariables false
theorem set_self {w : World} {g i : Nat} {cs : Array Value} {t : TypeId} {v : Value} (h : w.heap[g]? = some (.cells cs t (0, 0))) (hv : cs[i]? = some v) : w.setCell ⟨g, i, none⟩ v = w := by
  have hc : cs.setIfInBounds i v = cs := by
    apply Array.ext_getElem?
    intro j
    rw [Array.getElem?_setIfInBounds]
    by_cases e : i = j
    · subst e
      have hi : i < cs.size := (Array.getElem?_eq_some_iff.1 hv).1
      simp [hi] at hv ⊢
      exact hv.symm
    · simp [e]
  have hh : (w.setCell ⟨g, i, none⟩ v).heap = w.heap := by
    apply Array.ext_getElem?
    intro k
    by_cases hk : k = g
    · subst hk
      rw [heap_setCell_same w k i cs t v h, h, hc]
    · exact heap_setCell_other _ _ _ _ hk
  show ({ w with heap := (w.setCell ⟨g, i, none⟩ v).heap } : World) = w
  rw [hh]
theorem ram_ltG {w : World} {sb bp bw bh N : Nat} {m : Nat → Int} {wt ht : Int → Bool} (R : RamIs w sb bp bw bh N m wt ht) : sb < w.heap.size ∧ bp < w.heap.size ∧ bw < w.heap.size ∧ bh < w.heap.size :=
  ⟨World.block_lt_of_cell? _ _ R.c0, R.ps.lt, R.ws.lt, R.hs.lt⟩
theorem st_rowG (w : World) (S : St) : StRow (w.alloc (.cells (stA S) 26)) w.heap.size S :=
  ⟨stA S, heap_alloc_new w _, stA_size S, fun j hj => stA_get S hj⟩
/-- the state of the closed fact -/
def hS1 : St := { zS with nx := 4 }
def hS0 : St := { hS1 with r := fun j => if j = 1 then 5 else if j = 2 then 6 else 0 }
def hL : List Opx := [⟨kindS 2, 1, 2, 0, 0, 0⟩, ⟨kindS 2, 2, 1, 0, 0, 0⟩, ⟨kindS 26, 0, 0, 0, 8, 0⟩]
def hX : Nat → Int := setX (setX (begX hS0) 1 6) 2 5
end Go.Proofs.YtkehhlibkebomaaDoor
/-
  Errors of host.Run; coded.
-/
namespace Go.Proofs.YtkehhlibkebomaaDoor
open Go.RowKit Go.Maps
open Num
set_option linter.unusedVariables false
/-- an error that is one -/
theorem cerr_some {pe : Nat → Addr} {w : World} {f : Int × Int} {x : Value} (C : CErr pe w f x) (hf : f ≠ (0, -1)) : ∃ t a, x = .iface t (.pointer (some a)) := by
  rcases C with ⟨h1, h2⟩ | ⟨h1, h2, fb, h3, _⟩
  · have : f.1 ≠ 0 := by
      intro h
      apply hf
      obtain ⟨a, b⟩ := f
      simp only at h h1
      rw [h, h1]
    rw [erV_some this] at h2
    exact ⟨_, _, h2⟩
  · exact ⟨_, _, h3⟩
section
variable {w : World}
end
end Go.Proofs.YtkehhlibkebomaaDoor
/-
  sameEnd.
-/
namespace Go.Proofs.YtkehhlibkebomaaDoor
open Go.RowKit Go.Maps
open Num
set_option linter.unusedVariables false
theorem load_place {w : World} {b : Nat} {S : St} {v : Value} {wc : Int} (A : RowIs w b 29 45 (plV S v wc)) : (loadVar 29 ⟨b, 0, none⟩).run Tryd.prog w = .ok (.agg (plA S v wc)) w :=
  run_loadVar_mid w b 0 29 ((List.range 45).map (plV S v wc)) _ (fun j u hu => by
    have hj : j < 45 := by have := (List.getElem?_eq_some_iff.1 hu).1; simpa using this
    rw [Nat.zero_add, A.cell hj]
    rw [List.getElem?_map, List.getElem?_range hj] at hu
    exact hu) Tryd.underlying29 rfl (by show _ = some 45; kernel_rfl)
theorem wpList_loadT {ops : Array Oper} {Q : Exit → Act → World → Prop} {a : Act} {w : World} {rest : List Oper} {o : Oper} (t : TypeId) (x : Operand) (hop : o.op = .load t x) (sb : Nat) (v : Value) (hgd : Region.wanted o (yielded ops a.tmps) = true) (hx : a.eval x = .pointer (some ⟨sb, 0, none⟩)) (hl : (loadVar t ⟨sb, 0, none⟩).run Tryd.prog w = .ok v w)
    (h : wpList Tryd.prog ops Q rest (a.put o.dst v) w) : wpList Tryd.prog ops Q (o :: rest) a w :=
  wpList_step fun K hK => by
    rw [if_pos hgd]
    unfold Oper.wp
    rw [exec_loadT hop hx w hl, Oper.upon_value]
    exact hK _ _ h
/-- two ends that no one tells apart, where traps are alike wherever they are -/
def OzSame : Oz → Oz → Prop
  | .trap _, .trap _ => True
  | .leave M, .leave N => M.lv = N.lv ∧ (∀ i, i < 4096 → M.m i = N.m i) ∧ ∀ r : Nat, 1 ≤ r → r ≤ 33 → M.x r = N.x r
  | .fell, .fell => True
  | _, _ => False
def rgS (S : St) (j : Nat) : Int := if j < 32 then S.r j else if j = 32 then S.hi else S.lo
theorem rgS_bd {S : St} (ok : S.ok) : ∀ j, j < 34 → 0 ≤ rgS S j ∧ rgS S j < 4294967296 := by
  intro j hj
  unfold rgS
  split
  · exact ok.r j
  · split
    · exact ok.hi
    · exact ok.lo
/-- what is told of an end: whether it trapped, a state, words -/
theorem stF_same {f : Nat → Value} {M N : Mz} {many ct : Int} (h1 : M.lv = N.lv) (h2 : ∀ r : Nat, 1 ≤ r → r ≤ 33 → M.x r = N.x r) : ∀ j, j < 43 → stF f M many ct j = stF f N many ct j := by
  intro j hj
  unfold stF
  by_cases h : 1 ≤ j ∧ j < 34
  · rw [if_pos h, if_pos h, h2 j h.1 (by omega)]
  · rw [if_neg h, if_neg h, h1]
/-- a state behind a run, as a state -/
def lfS (S : St) (M : Mz) (many : Int) : St := { S with r := fun j => if 1 ≤ j then M.x j else S.r j, hi := M.x 32, lo := M.x 33, pc := M.lv, nx := lo (M.lv + 4), ct := S.ct + many }
theorem stF_st (S : St) (M : Mz) (many : Int) : ∀ j, j < 43 → stV (lfS S M many) j = stF (stV S) M many S.ct j := by
  intro j hj
  by_cases h0 : j = 0
  · subst h0; rfl
  · by_cases h1 : j < 34
    · have e : stF (stV S) M many S.ct j = .int .u32 (M.x j) := by unfold stF; rw [if_pos (by omega)]
      rw [e]
      unfold stV lfS
      by_cases h : j < 32
      · rw [if_pos h]; show Value.int .u32 (if 1 ≤ j then M.x j else S.r j) = _; rw [if_pos (by omega)]
      · rw [if_neg h]
        by_cases h2 : j = 32
        · rw [if_pos h2, h2]
        · rw [if_neg h2, if_pos (by omega)]; rw [show j = 33 by omega]
    · have hc : j = 34 ∨ j = 35 ∨ j = 36 ∨ j = 37 ∨ j = 38 ∨ j = 39 ∨ j = 40 ∨ j = 41 ∨ j = 42 := by omega
      rcases hc with rfl | rfl | rfl | rfl | rfl | rfl | rfl | rfl | rfl <;> rfl
/-- the end's own words: trap, a state, memory -/
def ozT : Oz → Bool
  | .trap _ => true
  | _ => false
def ozS (S : St) (many : Int) : Oz → St
  | .leave M => lfS S M many
  | _ => S
def ozM (m : Nat → Int) : Oz → (Nat → Int)
  | .leave M => M.m
  | _ => m
theorem OzSame.told {S : St} {many : Int} {m : Nat → Int} {a b : Oz} (h : OzSame a b) : ozT a = ozT b ∧ stA (ozS S many a) = stA (ozS S many b) ∧ ∀ i, i < 4096 → ozM m a i = ozM m b i := by
  cases a <;> cases b <;> simp only [OzSame] at h
  · exact ⟨rfl, rfl, fun _ _ => rfl⟩
  · obtain ⟨h1, h2, h3⟩ := h
    refine ⟨rfl, stA_congr (fun j hj => ?_), h2⟩
    show stV (lfS S _ many) j = stV (lfS S _ many) j
    rw [stF_st _ _ _ j hj, stF_st _ _ _ j hj]
    exact stF_same h1 h3 j hj
  · exact ⟨rfl, rfl, fun _ _ => rfl⟩
end Go.Proofs.YtkehhlibkebomaaDoor
/-
  sameEnd, walked.
-/
namespace Go.Proofs.YtkehhlibkebomaaDoor
open Go.RowKit Go.Maps
open Num
set_option linter.unusedVariables false
end Go.Proofs.YtkehhlibkebomaaDoor
/-
  A plan's run as the document has it.
-/
namespace Go.Proofs.YtkehhlibkebomaaDoor
open Go.RowKit Go.Maps
open Num
set_option linter.unusedVariables false
theorem rowZ_x0 {wt : Int → Bool} {x m : Nat → Int} {many : Int} : ∀ (row : List Opx) (M : Mz), (∀ o ∈ row, opE o many = 0) → (row.foldl (fun M o => appZ M o (resZ wt x m o)) M).x 0 = M.x 0
  | [], M, _ => rfl
  | o :: row, M, h => by
    have e := rowZ_x0 (wt := wt) (x := x) (m := m) row (appZ M o (resZ wt x m o)) (fun q hq => h q (by simp [hq]))
    show (row.foldl (fun M o => appZ M o (resZ wt x m o)) (appZ M o (resZ wt x m o))).x 0 = M.x 0
    rw [e]
    show (if 0 < wrX o then setX M.x (wrX o) (resZ wt x m o).v else M.x) 0 = M.x 0
    split
    · rename_i hw
      unfold setX
      rw [if_neg (by omega)]
    · rfl
theorem runZ_x0 {wt : Int → Bool} {many : Int} : ∀ (rs : List (List Opx)) (x m : Nat → Int) (M : Mz), (∀ r ∈ rs, ∀ o ∈ r, opE o many = 0) → runZ wt rs x m = .leave M → M.x 0 = x 0
  | [], x, m, M, _, h => by cases h
  | r :: rs, x, m, M, hw, h => by
    rw [runZ_cons] at h
    cases ht : trapZ wt x m r with
    | some t => rw [ht] at h; cases h
    | none =>
      rw [ht] at h
      simp only at h
      have hx := rowZ_x0 (wt := wt) (x := x) (m := m) r ⟨x, m, -1⟩ (hw r (by simp))
      by_cases hlv : (rowZ wt x m r).lv < 0
      · rw [if_pos hlv] at h
        have := runZ_x0 rs _ _ M (fun q hq => hw q (by simp [hq])) h
        rw [this]; exact hx
      · rw [if_neg hlv] at h
        injection h with h
        rw [← h]; exact hx
theorem begX_nw {T : St} (h0 : T.r 0 = 0) : begX T = nwX (rgS T) 34 := by
  funext j
  unfold begX nwX rgS
  by_cases e0 : j = 0
  · subst e0; rw [if_pos (by omega), if_neg (by omega)]; exact h0
  · by_cases h : j < 34
    · rw [if_pos (show 1 ≤ j ∧ j < 34 by omega)]
      by_cases h2 : j < 32
      · rw [if_pos h2, if_pos h2]
      · rw [if_neg h2, if_neg h2]
        by_cases h3 : j = 32
        · rw [if_pos h3, if_pos h3]
        · rw [if_neg h3, if_neg h3, if_pos (by omega)]
    · rw [if_neg (show ¬ (1 ≤ j ∧ j < 34) by omega), if_neg (by omega), if_neg (by omega), if_neg (by omega)]
end Go.Proofs.YtkehhlibkebomaaDoor
