/-
  Package ir's gate: a byte of memory, by what waits: slices.Backward over the stores that wait.
-/
import Derived.RangeFuncBox
import Derived.RangeFuncLeaves
import Derived.RangeFuncNested
import Derived.Shelf.Abstract
import Derived.WalkKit
import Derived.OwnWalkIn
import Derived.TacticsInMore
import Derived.LoopNIn
import Derived.LoopIn
import Derived.Deep.QuietTactic
import Derived.Test.YtkehhlibkebomaaDoorQIrGate
import Derived.Test.YtkehhlibkebomaaDoorKPartsWalk
namespace Go.Proofs.YtkehhlibkebomaaDoor
open Go.RowKit Go.Maps Go.Shelf
open Num
set_option linter.unusedVariables false
attribute [local go_sem] Oper.semAt_some
abbrev Pq := { q : Pend // q.ok }
def pq0 : Pq := ⟨⟨0, 1, 0⟩, ⟨by decide, by decide, by decide, by decide⟩⟩
def pqs (p : List Pq) : List Pend := p.map (·.1)
/-- a store that waits, as cells -/
def pdC (q : Pend) : List Value := [.int .u32 q.a, .int .i64 q.s, .int .u32 q.v]
/-- the slice of stores that wait, in a block below n₀ -/
def PdIn (n₀ : Nat) (W : World) (sv : Value) (p : List Pq) : Prop :=
  (sv = .slice none 0 0 ∧ p = []) ∨ ∃ b off cap, sv = .slice (some ⟨b, off, none⟩) p.length cap ∧ b < n₀ ∧ ∀ (j : Nat) (q : Pq), p[j]? = some q → W.cell? ⟨b, off + j * 3, none⟩ = some (.int .u32 q.1.a) ∧ W.cell? ⟨b, off + j * 3 + 1, none⟩ = some (.int .i64 q.1.s) ∧ W.cell? ⟨b, off + j * 3 + 2, none⟩ = some (.int .u32 q.1.v)
theorem PdIn.below {n₀ : Nat} {A B : World} (h : Below n₀ A B) {sv : Value} {p : List Pq} : PdIn n₀ A sv p → PdIn n₀ B sv p
  | .inl e => .inl e
  | .inr ⟨b, off, cap, e, hb, hc⟩ => .inr ⟨b, off, cap, e, hb, fun j q hq => ⟨(h.cell (p := ⟨b, off + j * 3, none⟩) hb).trans (hc j q hq).1, (h.cell (p := ⟨b, off + j * 3 + 1, none⟩) hb).trans (hc j q hq).2.1, (h.cell (p := ⟨b, off + j * 3 + 2, none⟩) hb).trans (hc j q hq).2.2⟩⟩
/-- what has come when k rounds are over -/
def uptoG {α : Type} (f : Nat → α) (k : Nat) : List α := (List.range k).map f
theorem upto_succG {α : Type} (f : Nat → α) (k : Nat) : uptoG f (k + 1) = uptoG f k ++ [f k] := by simp [uptoG, List.range_succ]
theorem upto_lengthG {α : Type} (f : Nat → α) (k : Nat) : (uptoG f k).length = k := by simp [uptoG]
/-- the round's number k: from the back -/
def bkG (p : List Pq) (k : Nat) : Nat × Pq := (p.length - 1 - k, p[p.length - 1 - k]?.getD pq0)
def enP (x : Nat × Pq) : Array Value := #[.int .i64 (x.1 : Int), .agg #[.int .u32 x.2.1.a, .int .i64 x.2.1.s, .int .u32 x.2.1.v]]
set_option maxRecDepth 100000 in
set_option maxHeartbeats 2000000 in
theorem back1_inG (F : Fence) (n : Nat) (h7 : F.fn 72) (hro : F.round = none) (hn : 1 ≤ n) (l Bs n₀ b off cap : Nat) (p : List Pq) (hreach : p.length ≤ 1000000) (hb : b < n₀) (J Jx : List (Nat × Pq) → World → Prop)
    (hY : ∀ pre x W, J pre W → pre.length < p.length → YieldAt F (n - 1) Tryd.prog l (enP x) W fun e W' =>
      (e = .returned (.bool true) ∧ J (pre ++ [x]) W' ∧ Below n₀ W W') ∨ (e = .returned (.bool false) ∧ Jx (pre ++ [x]) W'))
    (W : World) (hBs0 : Bs < n₀) (hBs : W.cell? ⟨Bs, 0, none⟩ = some (.slice (some ⟨b, off, none⟩) p.length cap)) (hc : ∀ (j : Nat) (q : Pq), p[j]? = some q → W.cell? ⟨b, off + j * 3, none⟩ = some (.int .u32 q.1.a) ∧ W.cell? ⟨b, off + j * 3 + 1, none⟩ = some (.int .i64 q.1.s) ∧ W.cell? ⟨b, off + j * 3 + 2, none⟩ = some (.int .u32 q.1.v)) (h0 : J [] W) :
    CallsIn F n Tryd.prog 72 #[.func (.yield l) #[] #[], .pointer (some ⟨Bs, 0, none⟩)] W fun e W' => (∃ v, e = .returned v) ∧
      ((∃ ys, ys = uptoG (bkG p) p.length ∧ J ys W') ∨ (∃ pre, (∃ k, k ≤ p.length ∧ pre = uptoG (bkG p) k) ∧ Jx pre W')) := by
  refine callsIn_of_wp Tryd.func72 rfl h7 ?_ hro
  simp only [Tryd.ntmps72, List.size_toArray, List.length_cons, List.length_nil, Nat.reduceAdd, Nat.reduceSub, Array.replicate_succ, Array.replicate_zero, List.push_toArray, List.append_toArray, List.nil_append, List.cons_append]
  gi_wp2
  gi_loopw [3] (fun i wr => ∃ k : Nat, k ≤ p.length ∧ i = .int .i64 ((p.length : Int) - 1 - k) ∧ J (uptoG (bkG p) k) wr ∧ Below n₀ W wr)
    (fun i _ => (intOf i + 1).toNat)
  case atStart => exact ⟨0, Nat.zero_le _, by simp, h0, Below.refl _ _⟩
  case round =>
    obtain ⟨k, hk, rfl, hJs, hnx⟩ := hrel
    have hBr : wr.cell? ⟨Bs, 0, none⟩ = some (.slice (some ⟨b, off, none⟩) p.length cap) := (hnx.cell (p := ⟨Bs, 0, none⟩) hBs0).trans hBs
    by_cases hlt : k < p.length
    · have hix : p[p.length - 1 - k]? = some (bkG p k).2 := by
        unfold bkG; rw [List.getElem?_eq_getElem (by omega)]; rfl
      obtain ⟨c0, c1, c2⟩ := hc _ _ hix
      have c0 := (hnx.cell (p := ⟨b, off + (p.length - 1 - k) * 3, none⟩) hb).trans c0
      have c1 := (hnx.cell (p := ⟨b, off + (p.length - 1 - k) * 3 + 1, none⟩) hb).trans c1
      have c2 := (hnx.cell (p := ⟨b, off + (p.length - 1 - k) * 3 + 2, none⟩) hb).trans c2
      obtain ⟨fn, tmps, assign, body, hy, hR⟩ := hY _ (bkG p k) wr hJs (by rw [upto_lengthG]; exact hlt)
      have e1 : (((p.length - 1 - k : Nat) : Int)) = (p.length : Int) - 1 - k := by omega
      have e2 : ((p.length : Int) - 1 - k).toNat = p.length - 1 - k := by omega
      unfold enP at hy
      have e3 : (((bkG p k).1 : Nat) : Int) = (p.length : Int) - 1 - k := e1
      rw [e3] at hy
      have g1 : 0 ≤ (p.length : Int) - 1 - k := by omega
      have g2 : (p.length : Int) - 1 - k < p.length := by omega
      clear hix e3
      gi_wp2
      refine hR.mono ?_
      rintro e W3 (⟨rfl, hJ3, hk3⟩ | ⟨rfl, hJx3⟩)
      · gi_wp2
        go_roundw
        case rel => exact ⟨k + 1, by omega, by (congr 1; omega), by rw [upto_succG]; exact hJ3, hnx.trans hk3⟩
        case measure => simp [intOf]; omega
      · gi_wp2
        refine bodyPost_ret (results_none rfl _ _ _) rfl ?_
        exact ⟨⟨_, rfl⟩, .inr ⟨_, ⟨k + 1, by omega, (upto_succG _ _).symm⟩, hJx3⟩⟩
    · obtain rfl : k = p.length := by omega
      have g1 : ¬ 0 ≤ (p.length : Int) - 1 - p.length := by omega
      gi_wp2
      go_end0
      first | exact ⟨⟨_, rfl⟩, .inl ⟨_, rfl, hJs⟩⟩ | exact ⟨⟨_, rfl⟩, .inl hJs⟩
set_option maxRecDepth 100000 in
set_option maxHeartbeats 1000000 in
/-- .. where nothing waits: no round -/
theorem back1_nil_in (F : Fence) (n : Nat) (h8 : F.fn 72) (hro : F.round = none) (l Bs : Nat) (J : List (Nat × Pq) → World → Prop) (W : World) (hBs : W.cell? ⟨Bs, 0, none⟩ = some (.slice none 0 0)) (h0 : J [] W) :
    CallsIn F n Tryd.prog 72 #[.func (.yield l) #[] #[], .pointer (some ⟨Bs, 0, none⟩)] W fun e W' => (∃ v, e = .returned v) ∧ J [] W' := by
  refine callsIn_of_wp Tryd.func72 rfl h8 ?_ hro
  simp only [Tryd.ntmps72, List.size_toArray, List.length_cons, List.length_nil, Nat.reduceAdd, Nat.reduceSub, Array.replicate_succ, Array.replicate_zero, List.push_toArray, List.append_toArray, List.nil_append, List.cons_append]
  gi_wp2
  gi_loopw [3] (fun i wr => i = .int .i64 (-1) ∧ J [] wr) (fun _ _ => 0)
  case atStart => exact ⟨rfl, h0⟩
  case round =>
    obtain ⟨rfl, hJs⟩ := hrel
    gi_wp2
    go_end0
    exact ⟨⟨_, rfl⟩, hJs⟩
set_option maxHeartbeats 1000000 in
theorem back_inG (F : Fence) (n : Nat) (h6 : F.fn 55) (hro : F.round = none) (a : Option Addr) (len cap : Nat) (w : World) :
    CallsIn F n Tryd.prog 55 #[.slice a len cap] w fun e w' => e = .returned (.func (.func 72) #[] #[.pointer (some ⟨w.heap.size, 0, none⟩)]) ∧ w' = w.alloc (.cells #[.slice a len cap] 85) := by
  refine callsIn_of_wp Tryd.func55 rfl h6 ?_ hro
  simp only [Tryd.ntmps55, List.size_toArray, List.length_cons, List.length_nil, Nat.reduceAdd, Nat.reduceSub, Array.replicate_succ, Array.replicate_zero, List.push_toArray, List.append_toArray, List.nil_append, List.cons_append]
  gi_wp2
  go_ret
  exact ⟨rfl, rfl⟩
theorem back_stopsG (F : Fence) (n : Nat) (h8 : F.fn 72) (hro : F.round = none) (hn : 1 ≤ n) (Bs n₀ : Nat) (sv : Value) (p : List Pq) (hreach : p.length ≤ 1000000) (w : World) (hBs : Bs < w.heap.size) (hBs0 : Bs < n₀) (hn₀ : n₀ ≤ w.heap.size)
    (hc : w.cell? ⟨Bs, 0, none⟩ = some sv) (hI : PdIn n₀ w sv p) :
    SeqStopsK F n Tryd.prog 72 #[.pointer (some ⟨Bs, 0, none⟩)] enP (Below n₀) (fun ys => ys = uptoG (bkG p) p.length)
      (fun pre => ∃ k, k ≤ p.length ∧ pre = uptoG (bkG p) k) p.length w := fun l J Jx W hW _ _ hY h0 => by
  have hc' := (hW.cell (p := ⟨Bs, 0, none⟩) hBs).trans hc
  rcases hI.below (hW.mono hn₀) with ⟨rfl, rfl⟩ | ⟨b, off, cap, rfl, hb, hcs⟩
  · exact (back1_nil_in F n h8 hro l Bs J W hc' h0).mono fun e W' ⟨he, hj⟩ => ⟨he, .inl ⟨_, rfl, hj⟩⟩
  · exact back1_inG F n h8 hro hn l Bs n₀ b off cap p hreach hb J Jx hY W hBs0 hc' hcs h0
def NoHit (x : Int) (l : List (Nat × Pq)) : Prop := ∀ y ∈ l, hitB y.2.1 x = false
def OneHit (x : Int) (l : List (Nat × Pq)) (v : Int) : Prop := ∃ ini last, l = ini ++ [last] ∧ NoHit x ini ∧ hitB last.2.1 x = true ∧ v = pByte last.2.1 x
theorem NoHit.snoc {x : Int} {l : List (Nat × Pq)} (h : NoHit x l) {y : Nat × Pq} (hy : hitB y.2.1 x = false) : NoHit x (l ++ [y]) :=
  fun p hp => (List.mem_append.1 hp).elim (h p) (fun e => by simp at e; subst e; exact hy)
theorem and255 (y : Int) (h0 : 0 ≤ y) (h1 : y < 4294967296) : bits .and .u32 y 255 = y % 256 := by
  obtain ⟨n, rfl⟩ : ∃ n : Nat, y = n := ⟨y.toNat, by omega⟩
  rw [show (255 : Int) = ((255 : Nat) : Int) by rfl, u32_and_nat n 255 (by omega) (by omega), show 255 = 2 ^ 8 - 1 by rfl, Nat.and_two_pow_sub_one_eq_mod]
  omega
theorem lastB_none (m : Nat → Int) (x : Int) : ∀ l : List Pend, (∀ q ∈ l, hitB q x = false) → lastB m x l = ld m x 1 false
  | [], _ => rfl
  | q :: l, h => by
    unfold lastB
    rw [if_neg (by rw [h q (List.mem_cons_self ..)]; simp), lastB_none m x l (fun r hr => h r (List.mem_cons_of_mem _ hr))]
theorem lastB_at (m : Nat → Int) (x : Int) (q : Pend) : ∀ (l l' : List Pend), (∀ r ∈ l, hitB r x = false) → hitB q x = true → lastB m x (l ++ q :: l') = pByte q x
  | [], l', _, h => by show (if hitB q x = true then _ else _) = _; rw [if_pos h]
  | r :: l, l', h, hq => by
    show (if hitB r x = true then _ else lastB m x (l ++ q :: l')) = _
    rw [if_neg (by rw [h r (List.mem_cons_self ..)]; simp), lastB_at m x q l l' (fun s hs => h s (List.mem_cons_of_mem _ hs)) hq]
/-- an address less another one, as words: below how many bytes? -/
theorem hit_word (q : Pend) (ok : q.ok) (x : Int) (h0 : 0 ≤ x) (h1 : x < 16384) : ((x - q.a) % 4294967296 < q.s) = (hitB q x = true) ∧ (hitB q x = true → (x - q.a) % 4294967296 = x - q.a ∧ 0 ≤ q.s - 1 - (x - q.a) ∧ q.s - 1 - (x - q.a) ≤ 3 ∧ 0 ≤ x - q.a) := by
  obtain ⟨hs, hm, hf⟩ := chk_ok ok.c
  have := ok.a0
  unfold hitB
  simp only [decide_eq_true_eq]
  constructor
  · apply propext; constructor <;> intro h <;> omega
  · intro h; omega
theorem bk_rev (p : List Pq) (k : Nat) (h : k < p.length) : (pqs p).reverse[k]? = some (bkG p k).2.1 := by
  unfold pqs bkG
  rw [List.getElem?_reverse (by simpa using h), List.getElem?_map, List.length_map, List.getElem?_eq_getElem (by omega)]
  rfl
theorem upto_none (p : List Pq) (x : Int) (h : ∀ y ∈ uptoG (bkG p) p.length, hitB y.2.1 x = false) : ∀ q ∈ (pqs p).reverse, hitB q x = false := by
  intro q hq
  obtain ⟨k, hk, e⟩ := List.mem_iff_getElem.1 hq
  have hk' : k < p.length := by simpa [pqs] using hk
  have e2 := bk_rev p k hk'
  rw [List.getElem?_eq_getElem hk, e] at e2
  injection e2 with e2
  rw [e2]
  exact h _ (List.mem_map.2 ⟨k, List.mem_range.2 hk', rfl⟩)
theorem upto_first (m : Nat → Int) (p : List Pq) (x : Int) (k : Nat) (hk : k < p.length) (h : ∀ y ∈ uptoG (bkG p) k, hitB y.2.1 x = false) (hx : hitB (bkG p k).2.1 x = true) : lastB m x (pqs p).reverse = pByte (bkG p k).2.1 x := by
  have hk' : k < (pqs p).reverse.length := by simpa [pqs] using hk
  have e : (pqs p).reverse = (pqs p).reverse.take k ++ (bkG p k).2.1 :: (pqs p).reverse.drop (k + 1) := by
    conv => lhs; rw [← List.take_append_drop k (pqs p).reverse]
    congr 1
    rw [List.drop_eq_getElem_cons hk']
    have := bk_rev p k hk
    rw [List.getElem?_eq_getElem hk'] at this
    injection this with this
    rw [this]
  rw [e]
  refine lastB_at m x _ _ _ (fun r hr => ?_) hx
  obtain ⟨i, hi, e⟩ := List.mem_iff_getElem.1 hr
  have hi' : i < k := by simp at hi; omega
  have e2 := bk_rev p i (by omega)
  rw [List.getElem_take] at e
  rw [List.getElem?_eq_getElem (by omega), e] at e2
  injection e2 with e2
  rw [e2]
  exact h _ (List.mem_map.2 ⟨i, List.mem_range.2 hi', rfl⟩)
set_option maxRecDepth 100000 in
set_option maxHeartbeats 4000000 in
theorem byteAt_any {w : World} {sb bp bw bh N : Nat} {m : Nat → Int} {wt ht : Int → Bool} (R : RamIs w sb bp bw bh N m wt ht) (gb go : Nat) (vi : Value) (p : List Pq) (hp : p.length ≤ 1000000) (g0 : w.cell? ⟨gb, go, none⟩ = some (.pointer (some ⟨sb, 0, none⟩))) (g1 : w.cell? ⟨gb, go + 1, none⟩ = some vi) (hI : PdIn w.heap.size w vi p) (x : Int) (h0 : 0 ≤ x) (h1 : x < 16384) :
    Calls Tryd.prog 42 #[.pointer (some ⟨gb, go, none⟩), .int .u32 x] w fun e w' => e = .returned (.int .u32 (lastB m x (pqs p).reverse)) ∧ Below w.heap.size w w' := by
  obtain ⟨a, len, cap, rfl⟩ : ∃ a len cap, vi = .slice a len cap := by
    rcases hI with ⟨rfl, _⟩ | ⟨b, off, cap, rfl, _⟩
    · exact ⟨_, _, _, rfl⟩
    · exact ⟨_, _, _, rfl⟩
  have hgb : gb < w.heap.size := World.block_lt_of_cell? _ _ g0
  refine (callsIn_wide (n := 4)).1 ?_
  refine callsIn_of_wp_marks Tryd.func42 rfl trivial ?_ rfl
  simp only [Tryd.ntmps42, List.size_toArray, List.length_cons, List.length_nil, Nat.reduceAdd, Nat.reduceSub, Array.replicate_succ, Array.replicate_zero, List.push_toArray, List.append_toArray, List.nil_append, List.cons_append]
  gi_wp2_with (refine ⟨trivial, ?_⟩; gi_at_call 55; refine (back_inG Fence.wide 3 trivial rfl _ _ _ _).mono ?_; rintro e w' ⟨rfl, rfl⟩)
  have bX := Boxed.new w 23 (.int .u32 x)
  have bR := Boxed.new (w.alloc (.cells #[.int .u32 x] 23)) 23 (.int .u32 0)
  have bN := Boxed.new ((w.alloc (.cells #[.int .u32 x] 23)).alloc (.cells #[.int .u32 0] 23)) 85 (.slice a len cap)
  rw [World.size_alloc] at bR bN
  rw [World.size_alloc] at bN
  have hB0 : Below w.heap.size w (((w.alloc (.cells #[.int .u32 x] 23)).alloc (.cells #[.int .u32 0] 23)).alloc (.cells #[.slice a len cap] 85)) := (((Below.refl _ w).alloc (Nat.le_refl _) _).alloc (by simp) _).alloc (by simp; omega) _
  have hX0 : (((w.alloc (.cells #[.int .u32 x] 23)).alloc (.cells #[.int .u32 0] 23)).alloc (.cells #[.slice a len cap] 85)).cell? ⟨w.heap.size, 0, none⟩ = some (.int .u32 x) := ((bX.alloc _).alloc _).cell
  have hR0 := (bR.alloc (.cells #[.slice a len cap] 85)).cell
  have hR1 := (bR.alloc (.cells #[.slice a len cap] 85)).frozen
  have hN0 := bN.cell
  have hsz : (((w.alloc (.cells #[.int .u32 x] 23)).alloc (.cells #[.int .u32 0] 23)).alloc (.cells #[.slice a len cap] 85)).heap.size = w.heap.size + 3 := by simp
  obtain ⟨W0, hW0⟩ : ∃ W0, (((w.alloc (.cells #[.int .u32 x] 23)).alloc (.cells #[.int .u32 0] 23)).alloc (.cells #[.slice a len cap] 85)) = W0 := ⟨_, rfl⟩
  rw [hW0] at hB0 hX0 hR0 hR1 hN0 hsz ⊢
  have hI0 : PdIn (w.heap.size + 3) W0 (.slice a len cap) p := by
    rcases hI.below hB0 with h | ⟨b, off, cap, e, hb, hc⟩
    · exact .inl h
    · exact .inr ⟨b, off, cap, e, by omega, hc⟩
  clear bX bR bN hW0
  refine wpIn_rangeFunc_ownH rfl (by decide) (gf := 72) (lb := #[.pointer (some ⟨w.heap.size + 1 + 1, 0, none⟩)]) rfl trivial (enters_of Tryd.func72 (by kernel_rfl) rfl)
    (back_stopsG Fence.wide 3 trivial rfl (by decide) (w.heap.size + 1 + 1) (w.heap.size + 3) (.slice a len cap) p hp W0 (by omega) (by omega) (by omega) hN0 hI0) belowK_t (belowK_b (by omega)) (Below.refl _ _) (fun _ => rfl)
    (fun pre W => (NoHit x pre ∧ W.cell? ⟨w.heap.size + 1, 0, none⟩ = some (.int .u32 0) ∧ W.frozen? ⟨w.heap.size + 1, 0, none⟩ = false ∧ W.cell? ⟨w.heap.size, 0, none⟩ = some (.int .u32 x)) ∧ Below w.heap.size w W ∧ w.heap.size + 3 ≤ W.heap.size)
    (fun c pre W => (c = .ret ∧ ∃ v, OneHit x pre v ∧ W.cell? ⟨w.heap.size + 1, 0, none⟩ = some (.int .u32 v)) ∧ Below w.heap.size w W)
    (OwnFrom.and (Own.from (fun s A B row hs hg hr => ⟨hs.1, cell_kept hs.2.1 hg hr, (frozen_kept hs.2.1 hg hr).trans hs.2.2.1, cell_kept hs.2.2.2 hg hr⟩) _) (OwnFrom.and (ownFrom_below (Nat.le_refl _) (by omega)) (fun s A B row hs hg hr => Nat.le_trans hs hg.size)))
    (fun c => OwnFrom.and (Own.from (fun s A B row hs hg hr => by obtain ⟨hc, v, e1, e4⟩ := hs; exact ⟨hc, v, e1, cell_kept e4 hg hr⟩) _) (ownFrom_below (Nat.le_refl _) (by omega)))
    ⟨⟨(fun y hy => by cases hy), hR0, hR1, hX0⟩, hB0, by omega⟩
    (fun y a' W => ∃ Bx : Nat, w.heap.size + 3 ≤ Bx ∧ (W.cell? ⟨Bx, 0, none⟩ = some (.int .u32 y.2.1.a) ∧ W.cell? ⟨Bx, 1, none⟩ = some (.int .i64 y.2.1.s) ∧ W.cell? ⟨Bx, 2, none⟩ = some (.int .u32 y.2.1.v)) ∧ a' = { tmps := #[.pointer (some ⟨gb, go, none⟩), .int .u32 x, undef, .pointer (some ⟨w.heap.size, 0, none⟩), .pointer (some ⟨w.heap.size + 1, 0, none⟩), undef, .pointer (some ⟨Bx, 0, none⟩), undef, undef, undef, .pointer (some ⟨gb, go, none⟩), .pointer (some ⟨gb, go, none⟩), .pointer (some ⟨gb, go + 1, none⟩), .slice a len cap, .func (.func 72) #[] #[.pointer (some ⟨w.heap.size + 1 + 1, 0, none⟩)], .int .i64 (y.1 : Int), .agg #[.int .u32 y.2.1.a, .int .i64 y.2.1.s, .int .u32 y.2.1.v], undef, undef, undef, undef, undef, undef, undef, undef, undef, undef, undef, undef, undef, undef, undef, undef, undef, undef, undef, undef, undef, undef, undef, undef, undef, undef, undef, undef, undef, undef], defers := [] })
    (fun y a' s A B row hs hg hr => by
      obtain ⟨Bx, h1, ⟨h2, h3, h4⟩, h5⟩ := hs
      have hr' : ∀ r, row = some r → ∃ o : Obj, A.heap[r]? = some o ∧ o.isCells = false := fun r e => (hr r e).2
      exact ⟨Bx, h1, ⟨cell_kept h2 hg hr', cell_kept h3 hg hr', cell_kept h4 hg hr'⟩, h5⟩) ?assign ?body ?done ?stop
  case assign =>
    rintro l pre y W K hi hK
    unfold enP
    gi_wp2
    refine hK _ _ ((KeepsOthers.alloc _ _).from _) ((Below.refl _ W).alloc (by omega) _) ?_ ⟨W.heap.size, hi.2.2, ⟨by simp, by simp, by simp⟩, rfl⟩
    obtain ⟨⟨i1, i2, i3, i4⟩, i5, i6⟩ := hi
    exact ⟨⟨i1, (World.grownBy_alloc W _ none).cell i2 (by simp), by rw [((Below.refl W.heap.size W).alloc (Nat.le_refl _) _).frozen (p := ⟨w.heap.size + 1, 0, none⟩) (show w.heap.size + 1 < W.heap.size by omega)]; exact i3, (World.grownBy_alloc W _ none).cell i4 (by simp)⟩, i5.alloc (by omega) _, by simp; omega⟩
  case body =>
    rintro l pre y a' W hl ⟨r, hr⟩ ⟨⟨i1, i2, i3, i4⟩, i5, i6⟩ ⟨Bx, hBx, ⟨b0, b1, b2⟩, rfl⟩ hlt
    have hbs : Bx < W.heap.size := World.block_lt_of_cell? _ _ b0
    obtain ⟨q1, q2⟩ := hit_word y.2.1 y.2.2 x h0 h1
    have ok := y.2.2
    obtain ⟨hs, hm, hf⟩ := chk_ok ok.c
    have v0 := ok.v0
    have v1 := ok.v1
    have a0 := ok.a0
    have s0 : 1 ≤ y.2.1.s := by omega
    have s1 : y.2.1.s ≤ 4 := by omega
    generalize es : y.2.1.s = qs at *
    generalize ea : y.2.1.a = qa at *
    generalize ev : y.2.1.v = qv at *
    have ES : Hid (y.2.1.s = qs) := es
    have EA : Hid (y.2.1.a = qa) := ea
    have EV : Hid (y.2.1.v = qv) := ev
    clear es ea ev ok hs hm hf
    cases hh : hitB y.2.1 x with
    | true =>
      have HH : Hid (hitB y.2.1 x = true) := hh
      rw [hh] at q1 q2
      obtain ⟨u1, u2, u3, u4⟩ := q2 rfl
      have q1' : (x - qa) % 4294967296 < qs := by rw [q1]
      clear q1 q2 hh
      have hp2 : Hid (0 ≤ qv / 2 ^ (8 * (qs - 1 - (x - qa))).toNat ∧ qv / 2 ^ (8 * (qs - 1 - (x - qa))).toNat < 4294967296) := by
        have := ediv_bd (d := 2 ^ (8 * (qs - 1 - (x - qa))).toNat) v0 (Int.pow_pos (by omega)); exact ⟨this.1, by omega⟩
      gi_wp2
      refine ⟨(KeepsOthers.setCell _ _ _).from _, ⟨rfl, _, ⟨pre, y, rfl, i1, HH.out, ?_⟩, World.cell?_setCell_same' _ _ _ (by rw [i2]; rfl)⟩, i5.setCell (p := ⟨w.heap.size + 1, 0, none⟩) (by show _ ≤ w.heap.size + 1; omega) _⟩
      rw [and255 _ hp2.out.1 hp2.out.2]
      unfold pByte
      rw [EA.out, ES.out, EV.out]
    | false =>
      have HH : Hid (hitB y.2.1 x = false) := hh
      rw [hh] at q1
      have q1' : ¬ (x - qa) % 4294967296 < qs := by rw [q1]; simp
      clear q1 q2 hh
      gi_wp2
      exact ⟨KeepsFrom.refl _ _, Below.refl _ _, ⟨i1.snoc HH.out, i2, i3, i4⟩, i5, i6⟩
  case done =>
    rintro D ys W hD rfl ⟨⟨hne, hcr, hfr, hcx⟩, hB, hS⟩ hK
    have R1 := R.stays hB (Nat.le_refl _)
    have g0' : W.cell? ⟨gb, go, none⟩ = some (.pointer (some ⟨sb, 0, none⟩)) := (hB.cell (p := ⟨gb, go, none⟩) hgb).trans g0
    have hld := fun n => load_ok (R1.drewN n) x 1 false h0 (by omega) (by unfold chk; rw [if_neg (by omega), if_neg (by omega), if_neg (by omega)])
    clear R R1
    gi_wp2
    refine wpIn_wide.2 ?_
    go_quiet ((go_at_call 41; exact Calls.quiet_of (hld _)))
    gi_wp2
    have hKd : (W.drewN nq).heap[D]? = some (.deferred (some [])) := hK
    have hcd : (W.drewN nq).cell? ⟨w.heap.size + 1, 0, none⟩ = some (.int .u32 0) := hcr
    have hBd : Below w.heap.size w (W.drewN nq) := below_drewN hB nq
    generalize W.drewN nq = V at *
    have hK' := (KeepsOthers.setCell V ⟨w.heap.size + 1, 0, none⟩ (.int .u32 (ld m x 1 false))).same D _ hKd rfl
    refine ⟨by simp, .inl ⟨_, _, rfl, run_takeDeferred hK', ?_⟩⟩
    have hc5 := cell_kept (World.cell?_setCell_same' V ⟨w.heap.size + 1, 0, none⟩ (.int .u32 (ld m x 1 false)) (by rw [hcd]; rfl)) (grownBy_putObj' _ D (.deferred none)) (fun r e => by cases e; exact ⟨_, hK', rfl⟩)
    have hfin := lastB_none m x _ (upto_none p x hne)
    refine ⟨.int .u32 (ld m x 1 false), ?_, by rw [hfin], (hBd.setCell (p := ⟨w.heap.size + 1, 0, none⟩) (by show _ ≤ w.heap.size + 1; omega) _).trans (belowK_b (w := w) (Nat.le_refl _) _ D _ _ (by omega) hK' rfl rfl)⟩
    simp [results, Tryd.f42, go_sem, hc5]
  case stop =>
    rintro D c pre W hD ⟨k, hk, rfl⟩ ⟨⟨rfl, v, e1, hcr⟩, hB⟩ hK
    gi_wp2
    refine ⟨by simp, .inl ⟨_, _, rfl, run_takeDeferred hK, ?_⟩⟩
    have hc5 := cell_kept hcr (grownBy_putObj' _ D (.deferred none)) (fun r e => by cases e; exact ⟨_, hK, rfl⟩)
    obtain ⟨ini, last, e1, e2, e3, rfl⟩ := e1
    obtain ⟨k', rfl⟩ : ∃ k', k = k' + 1 := by
      cases k with
      | zero => simp [uptoG] at e1
      | succ k' => exact ⟨k', rfl⟩
    rw [upto_succG] at e1
    obtain ⟨rfl, e5⟩ := List.append_inj' e1 rfl
    obtain rfl : bkG p k' = last := by simpa using e5
    have hfin := upto_first m p x k' (by omega) e2 e3
    refine ⟨.int .u32 (pByte (bkG p k').2.1 x), ?_, by rw [hfin], hB.trans (belowK_b (w := w) (Nat.le_refl _) W D _ _ (by omega) hK rfl rfl)⟩
    simp [results, Tryd.f42, go_sem, hc5]
end Go.Proofs.YtkehhlibkebomaaDoor
