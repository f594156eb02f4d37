/-
  Package keep: a keep and what it has; New, Drop.
-/
import Derived.BigQuiet
import Derived.Test.YtcccaejjhodnkabGreatDoorQKpInts
import Derived.Test.YtcccaejjhodnkabGreatDoorQKpCopy
namespace Go.Proofs.YtcccaejjhodnkabGreatDoor
open Go.RowKit Go.Maps
open Num
set_option linter.unusedVariables false
/-- what holds however the keep's own cells, and its row's, are turned -/
def KHold (mb : Nat) (w : World) (kb : Nat) (v : Value) (Q : World → Prop) : Prop := ∀ W, w.heap.size ≤ W.heap.size → (∀ k, k < w.heap.size → k ≠ kb → k ≠ mb → v.ownBlock ≠ some k → W.heap[k]? = w.heap[k]?) → Q W
theorem KHold.here {mb : Nat} {w : World} {kb : Nat} {v : Value} {Q : World → Prop} (h : KHold mb w kb v Q) : Q w := h w (Nat.le_refl _) fun _ _ _ _ _ => rfl
theorem KHold.next {mb : Nat} {w w' : World} {kb : Nat} {v v' : Value} {Q : World → Prop} (h : KHold mb w kb v Q) (hs : w.heap.size ≤ w'.heap.size) (hb : ∀ k, k < w.heap.size → k ≠ kb → k ≠ mb → v.ownBlock ≠ some k → w'.heap[k]? = w.heap[k]?) (hm : ∀ k, v'.ownBlock = some k → v.ownBlock = some k ∨ w.heap.size ≤ k) : KHold mb w' kb v' Q := by
  intro W hs2 hb2
  refine h W (by omega) fun k hk hne hnm hnv => ?_
  rw [hb2 k (by omega) hne hnm (fun e => by rcases hm k e with e | e; exact hnv e; omega), hb k hk hne hnm hnv]
/-- what one that is kept holds -/
def KOne (x : Kx) (W : World) : Prop := IntsAt W (.slice x.ga x.gn x.gc) x.zs ∧ RowsI W (.slice x.ra x.rn x.rc) x.rs
structure KIs (mb : Nat) (w : World) (kb : Nat) (room : Int) (v : Value) (l : List Kx) : Prop where
  row : KRow w kb room v l
  one : ∀ x ∈ l, KHold mb w kb v (KOne x)
theorem KIs.stays {mb : Nat} {w w' : World} {kb : Nat} {room : Int} {v : Value} {l : List Kx} (K : KIs mb w kb room v l) (h : Below w.heap.size w w') : KIs mb w' kb room v l :=
  ⟨K.row.stays h, fun x hx => (K.one x hx).next h.size (fun k hk _ _ _ => h.block k hk) fun k e => .inl e⟩
theorem grown_of {w w1 w2 : World} {r : Option Nat} (h : Below w.heap.size w w1) (g : w1.grownBy w2 r) : w.grownBy w2 r :=
  ⟨g.os.trans h.os, g.tape.trans h.tape, g.output.trans h.output, Nat.le_trans h.size g.size, fun k hk hne => (g.block k (Nat.lt_of_lt_of_le hk h.size) hne).trans (h.block k hk)⟩
theorem grown_to {w w1 w2 : World} {r : Option Nat} (g : w.grownBy w1 r) (h : Below w1.heap.size w1 w2) : w.grownBy w2 r :=
  ⟨h.os.trans g.os, h.tape.trans g.tape, h.output.trans g.output, Nat.le_trans g.size h.size, fun k hk hne => (h.block k (Nat.lt_of_lt_of_le hk g.size)).trans (g.block k hk hne)⟩
/-- a block that is not the keep's is turned -/
theorem KIs.foreign {mb : Nat} {w w' : World} {kb : Nat} {room : Int} {v : Value} {l : List Kx} (K : KIs mb w kb room v l) (h : w.grownBy w' (some mb)) (hk : mb ≠ kb) (hv : v.ownBlock ≠ some mb) : KIs mb w' kb room v l :=
  ⟨⟨K.row.st.block (h.block kb K.row.lt (fun e => by injection e with e; exact hk e.symm)), owns_blocks K.row.own fun k e => h.block k (own_lt K.row.own k e).1 (fun e' => by injection e' with e'; rw [e'] at e; exact hv e)⟩,
   fun x hx => (K.one x hx).next h.size (fun k hk1 _ hk2 _ => h.block k hk1 (fun e => by injection e with e; exact hk2 e)) fun k e => .inl e⟩
set_option maxRecDepth 100000 in
set_option maxHeartbeats 2000000 in
theorem newK_any (w : World) (many : Int) (h1 : 1 ≤ many) (h2 : many ≤ 40) :
    Calls Tryz.prog 5 #[.int .i64 many] w fun e w' => e = .returned (.tuple #[.pointer (some ⟨w.heap.size, 0, none⟩), .nilIface]) ∧ w' = w.alloc (.cells #[.int .i64 many, .slice none 0 0] 67) := by
  have h3 : ¬ many < 1 := by omega
  have h4 : ¬ 40 < many := by omega
  go_enter Tryz.func5, Tryz.ntmps5
  go_wp2
  go_ret2
  exact ⟨rfl, rfl⟩
theorem newK_is (mb : Nat) (w : World) (many : Int) : KIs mb (w.alloc (.cells #[.int .i64 many, .slice none 0 0] 67)) w.heap.size many (.slice none 0 0) [] :=
  ⟨⟨⟨#[.int .i64 many, .slice none 0 0], heap_alloc_new w _, rfl, fun j hj => by rcases (by omega : j = 0 ∨ j = 1) with rfl | rfl <;> rfl⟩, World.ownsRow_nil _ _ _ _⟩, fun x hx => by cases hx⟩
/-- those that have a page -/
def hasP (page : Int) (x : Kx) : Bool := x.zs.contains page
set_option maxRecDepth 100000 in
set_option maxHeartbeats 4000000 in
theorem drop_any {mb : Nat} {w : World} {kb : Nat} {room : Int} {v : Value} {l : List Kx} (K : KIs mb w kb room v l) (hl : l.length ≤ 1000) (hz : ∀ x ∈ l, x.zs.length ≤ 100) (page : Int) :
    Calls Tryz.prog 17 #[.pointer (some ⟨kb, 0, none⟩), .int .i64 page] w fun e w' => ∃ v' sv, e = .returned v' ∧ w'.ownsRow w.heap.size 34 1 v' (l.filter (hasP page)).length (pcL (l.filter (hasP page))) ∧ KIs mb w' kb room sv (l.filter (fun x => !hasP page x)) ∧ (∀ k, sv.ownBlock = some k → w.heap.size ≤ k) ∧ w.grownBy w' (some kb) := by
  have hf := keepIsOf_any w page
  have hb1 : Below w.heap.size w (w.alloc (.cells #[.int .i64 page] 3)) := (Below.refl _ _).alloc (Nat.le_refl _) _
  have hc : (w.alloc (.cells #[.int .i64 page] 3)).cell? ⟨w.heap.size, 0, none⟩ = some (.int .i64 page) := by simp
  have ht := take_any (K.row.stays hb1) hl 51 (.inr rfl) w.heap.size (hasP page) (fun x hx W hW => isOf1_any ((hW.cell (p := ⟨w.heap.size, 0, none⟩) (by rw [World.size_alloc]; exact Nat.lt_succ_self _)).trans hc) x (((K.one x hx).here.1.stays hb1).stays hW) (by have := hz x hx; omega))
  have HK : Hid (KIs mb w kb room v l) := K
  have hlf : (l.filter (hasP page)).length ≤ 1000 := Nat.le_trans (List.length_filter_le _ _) hl
  have HB1 : Hid _ := hb1
  clear K hb1 hc hz
  go_enter Tryz.func17, Tryz.ntmps17
  go_wp2_with fail
  refine hf.mono ?_
  rintro e w1 ⟨rfl, rfl⟩
  clear hf
  go_wp2_with fail
  refine ht.mono ?_
  rintro e w2 ⟨tv, sv, rfl, ho, hk, hap, hg⟩
  have hp := pcsOf_any ho hlf
  have HN : Hid (KIs mb w2 kb room sv (l.filter (fun x => !hasP page x))) := ⟨hk, fun x hx => (HK.out.one x (List.mem_filter.1 hx).1).next (Nat.le_trans HB1.out.size hg.size) (fun k hk1 hk2 _ _ => (hg.block k (Nat.lt_of_lt_of_le hk1 HB1.out.size) (fun e => hk2 (by injection e))).trans (HB1.out.block k hk1)) fun k e => .inr (Nat.le_trans HB1.out.size (hap k e).1)⟩
  have HS : Hid (∀ k, sv.ownBlock = some k → w.heap.size ≤ k) := fun k e => Nat.le_trans HB1.out.size (hap k e).1
  have HG : Hid (w.grownBy w2 (some kb)) := grown_of HB1.out hg
  obtain ⟨ta, tn, tc, rfl⟩ := own_slice ho
  clear ht ho hk hap hg
  go_wp2_with fail
  refine hp.mono ?_
  rintro e w3 ⟨v', rfl, ho3, hb3⟩
  have HO : Hid (w3.ownsRow w.heap.size 34 1 v' (l.filter (hasP page)).length (pcL (l.filter (hasP page)))) := own_low ho3 HG.out.size
  have HB3 : Hid _ := hb3
  clear hp ho3 hb3
  go_wp2
  go_ret
  exact ⟨_, sv, rfl, HO.out, HN.out.stays HB3.out, HS.out, grown_to HG.out HB3.out⟩
end Go.Proofs.YtcccaejjhodnkabGreatDoor
/-
  SameInts of the same numbers.
-/
namespace Go.Proofs.YtcccaejjhodnkabGreatDoor
open Go.RowKit
open Num
set_option linter.unusedVariables false
theorem kbelow_drewN {B : Nat} {w w' : World} (h : Below B w w') (n : Nat) : Below B w (w'.drewN n) := ⟨h.os, h.tape, h.output, h.size, h.block⟩
set_option maxRecDepth 100000 in
set_option maxHeartbeats 2000000 in
theorem sameK_any {w : World} {va vb : Value} {L : List Int} (hA : IntsAt w va L) (hB : IntsAt w vb L) (hl : (L.length : Int) ≤ 1000000) :
    Calls Tryz.prog 20 #[va, vb] w fun e w' => e = .returned (.bool true) ∧ Below w.heap.size w w' := by
  have fm : ∀ {v : Value}, IntsAt w v L → ∃ ao ca, v = .slice ao L.length ca ∧ (0 < L.length → ∃ g o, ao = some ⟨g, o, none⟩ ∧ ∀ (i : Nat) (x : Int), L[i]? = some x → w.cell? ⟨g, o + i, none⟩ = some (.int .i64 x)) := fun {v} h => by
    rcases h with ⟨rfl, rfl⟩ | ⟨b, off, cap, rfl, _, _, hj⟩
    · exact ⟨none, 0, rfl, fun h => absurd h (by simp)⟩
    · refine ⟨_, cap, rfl, fun _ => ⟨b, off, rfl, fun i x hx => ?_⟩⟩
      have hi := (List.getElem?_eq_some_iff.1 hx).1
      rw [hj i hi]; simp [List.getD, hx]
  obtain ⟨ao, ca, rfl, ha⟩ := fm hA
  obtain ⟨bo, cb, rfl, hb⟩ := fm hB
  have HA : Hid (0 < L.length → ∃ g o, ao = some ⟨g, o, none⟩ ∧ ∀ (i : Nat) (x : Int), L[i]? = some x → w.cell? ⟨g, o + i, none⟩ = some (.int .i64 x)) := ha
  have HB : Hid (0 < L.length → ∃ g o, bo = some ⟨g, o, none⟩ ∧ ∀ (i : Nat) (x : Int), L[i]? = some x → w.cell? ⟨g, o + i, none⟩ = some (.int .i64 x)) := hb
  clear hA hB ha hb fm
  go_enter Tryz.func20, Tryz.ntmps20
  go_wp2
  go_loopw [5] (fun i wr => ∃ (j n : Nat), j ≤ L.length ∧ i = .int .i64 j ∧ wr = w.drewN n) (fun i _ => L.length - (intOf i).toNat)
  case atStart => exact ⟨0, 0, Nat.zero_le _, rfl, rfl⟩
  case round =>
    obtain ⟨j, n, hj, rfl, rfl⟩ := hrel
    by_cases hlt : j < L.length
    · obtain ⟨y, hy⟩ : ∃ y, L[j]? = some y := ⟨_, List.getElem?_eq_getElem hlt⟩
      obtain ⟨g, go, rfl, hg⟩ := HA.out (by omega)
      obtain ⟨h, ho, rfl, hh⟩ := HB.out (by omega)
      have yg := hg j y hy
      have yh := hh j y hy
      have zg := World.block_lt_of_cell? _ _ yg
      have zh := World.block_lt_of_cell? _ _ yh
      have hlt' : (j : Int) < L.length := by omega
      clear hg hh hy HA HB
      go_wp2
      go_quiet (fail)
      go_wp2
      go_roundw
      case rel => exact ⟨j + 1, n + nq, by omega, by go_num, by first | rfl | (rw [World.drewN_drewN]; done) | (simp; done)⟩
      case measure => simp [intOf]; omega
    · obtain rfl : j = L.length := by omega
      go_wp2
      go_ret
      exact ⟨rfl, kbelow_drewN (Below.refl _ _) n⟩
end Go.Proofs.YtcccaejjhodnkabGreatDoor
