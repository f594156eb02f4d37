/-
  AlikeWords; model: a place's memory as the document has it.
-/
import Derived.WalkSmall
import Derived.Test.YtjkencgcdlfjhaaGreatDoorJReads
import Derived.Test.YtjkencgcdlfjhaaGreatDoorJNew
namespace Go.Proofs.YtjkencgcdlfjhaaGreatDoor
open Go.RowKit Go.Maps
open Num
set_option linter.unusedVariables false
set_option maxRecDepth 100000 in
set_option maxHeartbeats 2000000 in
theorem alikeD_any {w : World} {g h n : Nat} {f : Nat → Int} (hA : ∀ i, i < n → w.cell? ⟨g, i, none⟩ = some (.int .u32 (f i))) (hB : ∀ i, i < n → w.cell? ⟨h, i, none⟩ = some (.int .u32 (f i))) (hl : (n : Int) ≤ 1000000) :
    Calls Tryz.prog 22 #[.slice (some ⟨g, 0, none⟩) n n, .slice (some ⟨h, 0, none⟩) n n] w fun e w' => e = .returned (.int .i64 1) ∧ Below w.heap.size w w' := by
  have HA : Hid (∀ i, i < n → w.cell? ⟨g, i, none⟩ = some (.int .u32 (f i))) := hA
  have HB : Hid (∀ i, i < n → w.cell? ⟨h, i, none⟩ = some (.int .u32 (f i))) := hB
  clear hA hB
  go_enter Tryz.func22, Tryz.ntmps22
  go_wp2
  go_loopw [5] (fun i wr => ∃ (j q : Nat), j ≤ n ∧ i = .int .i64 j ∧ wr = w.drewN q) (fun i _ => n - (intOf i).toNat)
  case atStart => exact ⟨0, 0, Nat.zero_le _, rfl, rfl⟩
  case round =>
    obtain ⟨j, q, hj, rfl, rfl⟩ := hrel
    by_cases hlt : j < n
    · have yg := HA.out j hlt
      have yh := HB.out j hlt
      have zg := World.block_lt_of_cell? _ _ yg
      have zh := World.block_lt_of_cell? _ _ yh
      have hlt' : (j : Int) < n := by omega
      generalize f j = y at *
      clear HA HB
      go_wp2
      go_quiet (fail)
      go_wp2
      go_roundw
      case rel => exact ⟨j + 1, q + nq, by omega, by go_num, by first | rfl | (rw [World.drewN_drewN]; done) | (simp; done)⟩
      case measure => simp [intOf]; omega
    · obtain rfl : j = n := by omega
      go_wp2
      go_ret
      exact ⟨rfl, below_drewN (Below.refl _ _) q⟩
structure Ck2 (W : World) (rb kb pb : Nat) (wa : Int) : Prop where
  z0 : W.cell? ⟨rb, 1, none⟩ = some (.slice (some ⟨kb, 0, none⟩) 64 64)
  z1 : W.cell? ⟨pb, 44, none⟩ = some (.int .i64 wa)
theorem WordsIn.stays {w w' : World} {v : Value} {xs : List Int} (X : WordsIn w v xs) (h : Below w.heap.size w w') : WordsIn w' v xs := by
  obtain ⟨ao, cap, e, hc, hh⟩ := X.sh
  exact ⟨⟨ao, cap, e, hc, fun hp => let ⟨b, off, eb, hcell⟩ := hh hp; ⟨b, off, eb, fun i hi => (h.cell (World.block_lt_of_cell? _ _ (hcell i hi))).trans (hcell i hi)⟩⟩, X.wf⟩
set_option maxRecDepth 100000 in
set_option maxHeartbeats 2000000 in
theorem model_any {w : World} {ps : Array Value} {v : Value} {wa : Int} {xs : List Int} (h43 : ps[43]? = some v) (h44 : ps[44]? = some (.int .i64 wa)) (X : WordsIn w v xs) (hx : xs.length ≤ 5000) :
    Calls Tryz.prog 20 #[.agg ps] w fun e w' => ∃ rb gb kb hb : Nat, e = .returned (.pointer (some ⟨rb, 0, none⟩)) ∧ DMem w' rb gb kb hb (mw xs) (fun p => decide (p = wa)) (fun _ => false) ∧ Below w.heap.size w w' ∧ w.heap.size ≤ rb ∧ w.heap.size ≤ gb ∧ w.heap.size ≤ kb ∧ w.heap.size ≤ hb := by
  have B0 : Below w.heap.size w (w.alloc (.cells ps 29)) := (Below.refl _ _).alloc (Nat.le_refl _) _
  have c43 : (w.alloc (.cells ps 29)).cell? ⟨w.heap.size, 43, none⟩ = some v := by rw [World.cell?_alloc_at _ _ _ _ rfl]; exact h43
  have c44 : (w.alloc (.cells ps 29)).cell? ⟨w.heap.size, 44, none⟩ = some (.int .i64 wa) := by rw [World.cell?_alloc_at _ _ _ _ rfl]; exact h44
  have hnw := dnew_any (X.stays B0) hx
  obtain ⟨ao, cap, rfl, _⟩ := X.sh
  clear X h43 h44
  go_enter Tryz.func20, Tryz.ntmps20
  go_upto_region 1 with fail
  generalize w.alloc (.cells ps 29) = W at *
  have q0 := World.block_lt_of_cell? _ _ c43
  go_wp2_with fail
  refine hnw.mono ?_
  rintro e w1 ⟨rb, gb, kb, hb, rfl, D1, b1, l1, l2, l3, l4⟩
  have hW := B0.size
  have HD : Hid (DMem w1 rb gb kb hb (mw xs) (fun _ => false) (fun _ => false)) := D1
  have HB : Hid (Below w.heap.size w w1) := B0.trans (b1.mono hW)
  have LL : Hid (w.heap.size ≤ rb ∧ w.heap.size ≤ gb ∧ w.heap.size ≤ kb ∧ w.heap.size ≤ hb) := ⟨by omega, by omega, by omega, by omega⟩
  have d44 : w1.cell? ⟨w.heap.size, 44, none⟩ = some (.int .i64 wa) := (b1.cell (p := ⟨w.heap.size, 44, none⟩) q0).trans c44
  have c1 := D1.d.c1
  have q1 := World.block_lt_of_cell? _ _ c1
  have q2 := World.block_lt_of_cell? _ _ d44
  clear hnw D1 b1 l1 l2 l3 l4 c43 c44 q0 B0 hW
  by_cases h0 : 0 ≤ wa
  · by_cases h1 : wa < 64
    · have g1 := HD.out.d.wc wa.toNat (by omega)
      have f1 := HD.out.fk wa.toNat
      have q3 := World.block_lt_of_cell? _ _ g1
      have D2 : Hid (DMem (w1.setCell ⟨kb, wa.toNat, none⟩ (.bool true)).drew rb gb kb hb (mw xs) (fun p => decide (p = wa)) (fun _ => false)) := HD.out.flagK wa.toNat (by omega) true _ (fun p _ => by
        by_cases e : p = wa.toNat
        · rw [if_pos e]; simp; omega
        · rw [if_neg e]; simp; omega)
      have B2 : Hid (Below w.heap.size w (w1.setCell ⟨kb, wa.toNat, none⟩ (.bool true)).drew) := (HB.out.setCell LL.out.2.2.1 _).drew
      go_wp2
      refine wp_region_phase 7 [(0, 0), (1, 0), (2, 0), (3, 1), (4, 0), (5, 1), (6, 0), (7, 2)] (fun W => Ck2 W rb kb w.heap.size wa) (by kernel_rfl) (by kernel_rfl) (fun _ _ _ d _ h => by cases d <;> exact h) ⟨by simpa using c1, by simpa using d44⟩ ?_
      repeat (first | (refine wpPlanZ_free (by rfl) (by rfl) (fun W => by (go_simp; try with_reducible rfl)) (fun K hK => ?_); go_simp; refine hK _ ?_; clear hK K) | (refine wpPlanZ_quiet (by rfl) (by rfl) (fun W hW => by (obtain ⟨z0, z1⟩ := hW; go_simp; try with_reducible rfl)) (fun K hK => ?_); go_simp; refine hK _ ?_; clear hK K))
      refine wpPlanZ_serial (by rfl) (by rfl) (fun K hK => ?_)
      go_simp
      refine hK _ _ (fun h => absurd h (by decide)) ?_
      clear hK K
      refine wpPlanZ_nil ?_
      clear c1 g1 f1 q1 q2 q3 d44 HB HD
      generalize (w1.setCell ⟨kb, wa.toNat, none⟩ (.bool true)).drew = W2 at *
      go_wp2
      go_ret
      first | exact ⟨rb, gb, kb, hb, rfl, D2.out, B2.out, LL.out⟩ | exact ⟨rb, rfl, gb, kb, hb, D2.out, B2.out, LL.out⟩
    · have D2 : Hid (DMem w1 rb gb kb hb (mw xs) (fun p => decide (p = wa)) (fun _ => false)) := HD.out.same (fun p hp => by simp; omega) (fun _ _ => rfl)
      go_wp2
      go_ret
      first | exact ⟨rb, gb, kb, hb, rfl, D2.out, HB.out, LL.out⟩ | exact ⟨rb, rfl, gb, kb, hb, D2.out, HB.out, LL.out⟩
  · have D2 : Hid (DMem w1 rb gb kb hb (mw xs) (fun p => decide (p = wa)) (fun _ => false)) := HD.out.same (fun p hp => by simp; omega) (fun _ _ => rfl)
    go_wp2
    go_ret
    first | exact ⟨rb, gb, kb, hb, rfl, D2.out, HB.out, LL.out⟩ | exact ⟨rb, rfl, gb, kb, hb, D2.out, HB.out, LL.out⟩
end Go.Proofs.YtjkencgcdlfjhaaGreatDoor
/-
  longPlace.
-/
namespace Go.Proofs.YtjkencgcdlfjhaaGreatDoor
open Go.RowKit Go.Maps
open Num
set_option linter.unusedVariables false
set_option maxRecDepth 100000 in
set_option maxHeartbeats 1000000 in
theorem longPl_any {w : World} {ps : Array Value} {ao : Option Addr} {n cap : Nat} {ct : Int} (h43 : ps[43]? = some (.slice ao n cap)) (h42 : ps[42]? = some (.int .i64 ct)) :
    Calls Tryz.prog 10 #[.agg ps] w fun e w' => e = .returned (.bool (decide (200 < (n : Int)) || decide (ct < 0) || decide (1099511627776 < ct))) ∧ Below w.heap.size w w' := by
  have B0 : Hid (Below w.heap.size w (w.alloc (.cells ps 29))) := (Below.refl _ _).alloc (Nat.le_refl _) _
  have c43 : (w.alloc (.cells ps 29)).cell? ⟨w.heap.size, 43, none⟩ = some (.slice ao n cap) := by rw [World.cell?_alloc_at _ _ _ _ rfl]; exact h43
  have c42 : (w.alloc (.cells ps 29)).cell? ⟨w.heap.size, 42, none⟩ = some (.int .i64 ct) := by rw [World.cell?_alloc_at _ _ _ _ rfl]; exact h42
  clear h43 h42
  obtain ⟨R, hR⟩ : ∃ R, (decide (200 < (n : Int)) || decide (ct < 0) || decide (1099511627776 < ct)) = R := ⟨_, rfl⟩
  have HR : Hid ((decide (200 < (n : Int)) || decide (ct < 0) || decide (1099511627776 < ct)) = R) := hR
  rw [hR]
  clear hR
  go_enter Tryz.func10, Tryz.ntmps10
  go_upto_region 1 with fail
  generalize w.alloc (.cells ps 29) = W at *
  have q0 := World.block_lt_of_cell? _ _ c43
  by_cases h1 : 200 < (n : Int)
  · have E : Hid (R = true) := by show _ = _; rw [← HR.out]; simp [h1]
    clear HR
    go_wp2
    go_ret
    exact ⟨by rw [E.out]; rfl, B0.out⟩
  by_cases h2 : ct < 0
  · have E : Hid (R = true) := by show _ = _; rw [← HR.out]; simp [h2]
    clear HR
    go_wp2
    go_ret
    exact ⟨by rw [E.out]; rfl, B0.out⟩
  by_cases h3 : 1099511627776 < ct
  · have E : Hid (R = true) := by show _ = _; rw [← HR.out]; simp [h3]
    clear HR
    go_wp2
    go_ret
    exact ⟨by rw [E.out]; rfl, B0.out⟩
  · have E : Hid (R = false) := by show _ = _; rw [← HR.out]; simp [h1, h2, h3]
    clear HR
    go_wp2
    go_ret
    exact ⟨by rw [E.out]; rfl, B0.out⟩
end Go.Proofs.YtjkencgcdlfjhaaGreatDoor
