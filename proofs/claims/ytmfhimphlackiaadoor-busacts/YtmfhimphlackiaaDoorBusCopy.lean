/-
  A bus, copied.
-/
import Derived.Test.YtmfhimphlackiaaDoorSeen
import Derived.Test.YtmfhimphlackiaaDoorCopy
import Derived.Test.YtmfhimphlackiaaDoorSerial
namespace Go.Proofs.YtmfhimphlackiaaDoor
open Go.RowKit Go.Maps
open Num
set_option linter.unusedVariables false
theorem out_one (out : List Int) : ∀ u ∈ outC out, u.oneCell' = true := by
  intro u hu
  obtain ⟨x, _, rfl⟩ := List.mem_map.1 hu
  rfl
set_option maxRecDepth 100000 in
set_option maxHeartbeats 1000000 in
theorem clone5 {w : World} {base n : Nat} {v : Value} {xs : List Value} (h : w.ownsRow base 5 1 v n xs) (hn : n ≤ 1000) (h1 : ∀ u ∈ xs, u.oneCell' = true) :
    Calls Tryd.prog 59 #[v] w fun e w' => ∃ ao cap, e = .returned (.slice ao n cap) ∧ w'.ownsRow w.heap.size 5 1 (.slice ao n cap) n xs ∧ Below w.heap.size w w' := by
  obtain ⟨i0, hi, hz0, hz1, hz2⟩ := info_parts info5
  have hq : ∀ (w : World) (a : Option Addr) (n c : Nat), (binOp .eql 99 (.slice a n c) (.slice none 0 0)).run Tryd.prog w = .ok (.bool a.isNone) w := fun w a n c => Lib.run_eql_slice_nil w 99 5 a n c 0 0 Tryd.underlying99
  rcases h.2 with ⟨rfl, rfl⟩ | ⟨g, cap, cur, rfl, hb, hg, hnc, hcm, hcs, htake⟩
  · have hx : xs = [] := List.eq_nil_of_length_eq_zero (by simpa using h.1)
    subst hx
    go_enter Tryd.func59, Tryd.ntmps59
    go_wp2
    go_ret
    exact ⟨none, 0, rfl, World.ownsRow_nil _ _ _ _, Below.refl _ _⟩
  · have hown : (w.alloc (.cells #[] 5)).ownsRow w.heap.size 5 1 (.slice (some ⟨w.heap.size, 0, none⟩) 0 0) 0 [] := World.ownsRow_made w #[] 0 (Nat.le_refl _) (by unfold maxLen; omega) rfl
    have hnews := (h.alloc (.cells #[] 5)).cells (g := g) rfl
    have hlen := h.1
    clear h hcs htake hg hcm
    go_enter Tryd.func59, Tryd.ntmps59
    go_wp2_with (at_builtin; refine wpList_append_own _ rfl _ _ 99 rfl w.heap.size 5 i0 (.int .u8 0) 1 1 Tryd.underlying99 hi hz0 hz1 hz2 rfl (by decide) (.slice (some ⟨w.heap.size, 0, none⟩) 0 0) 0 [] rfl hown ⟨g, 0, none⟩ n cap xs rfl hlen hnews h1 (by unfold maxLen; omega) (by omega) (by simp) ?_; intro v' w1 ho hg1 hm)
    go_ret
    rw [Nat.zero_add, List.nil_append] at ho
    have hb1 : Below w.heap.size w w1 := ⟨hg1.os, hg1.tape, hg1.output, by have := hg1.size; simp at this; omega, fun k hk => (hg1.block k (by simp; omega) (by simp [Value.ownBlock]; omega)).trans (Below.heap_alloc w _ k hk)⟩
    rcases ho.2 with ⟨e, rfl⟩ | ⟨g', cap', cur', rfl, _⟩
    · subst e
      exact ⟨none, 0, rfl, ho, hb1⟩
    · exact ⟨_, cap', rfl, ho, hb1⟩
theorem BusSeen.told {w : World} {bx by_ bb sb bp bw bh N : Nat} {m : Nat → Int} {wt ht : Int → Bool} {out : List Int} {lamp : Int} {tr : List Acc} {vo vt : Value} (B : BusSeen w bx by_ bb sb bp bw bh N m wt ht out lamp tr vo vt) :
    w.cell? ⟨bb, 0, none⟩ = some (.pointer (some ⟨sb, 0, none⟩)) ∧ w.cell? ⟨bb, 1, none⟩ = some vo ∧ w.cell? ⟨bb, 2, none⟩ = some (.int .u32 lamp) ∧ w.cell? ⟨bb, 3, none⟩ = some vt := ⟨B.c0, B.c1, B.c2, B.c3⟩
section
variable {w : World} {bx by_ bb sb bp bw bh N : Nat} {m : Nat → Int} {wt ht : Int → Bool} {out : List Int} {lamp : Int} {tr : List Acc} {vo vt : Value}
set_option maxRecDepth 100000 in
set_option maxHeartbeats 60000000 in
theorem copyBus_any (B : BusSeen w bx by_ bb sb bp bw bh N m wt ht out lamp tr vo vt) (hn : tr.length ≤ 1000) (ho : out.length ≤ 1000) :
    Calls Tryd.prog 34 #[.pointer (some ⟨bb, 0, none⟩)] w fun e w' => ∃ (b1 b2 bb' sb' bp' bw' bh' : Nat) (vo' vt' : Value), e = .returned (.pointer (some ⟨bb', 0, none⟩)) ∧ BusSeen w' b1 b2 bb' sb' bp' bw' bh' N m wt ht out lamp tr vo' vt' ∧ Below w.heap.size w w' := by
  have hk := fun W => fun h : Below w.heap.size w W => (B.stays h).told
  have BH : Hid (BusSeen w bx by_ bb sb bp bw bh N m wt ht out lamp tr vo vt) := B
  have b0 : Below w.heap.size w w.drew := below_drew (Below.refl _ _)
  clear B
  go_enter Tryd.func34, Tryd.ntmps34
  go_upto_region 1 with fail
  refine wp_region_plan [(0, false), (1, false), (2, false), (3, false), (5, false), (6, false), (7, false), (8, false), (10, false), (11, false), (12, false), (13, false), (14, false), (15, false), (16, false), (17, false), (4, true), (9, true), (18, true), (19, true), (20, true), (21, false)] (fun W => Below w.heap.size w W) (by kernel_rfl) (by kernel_rfl) (fun _ _ _ d _ h => by cases d <;> exact h) b0 ?_
  repeat (refine wpPlan_quiet (by rfl) (by rfl) (fun W hW => by (obtain ⟨k0, k1, k2, k3⟩ := hk W hW; go_simp; try with_reducible rfl)) (fun K hK => ?_); go_simp; refine hK _ ?_; clear hK K)
  refine wpPlan_serial (by rfl) (by rfl) (fun K hK => ?_)
  go_simp
  refine (copy_any (BH.out.stays b0).R).mono ?_
  rintro e w2 ⟨sb', bp', bw', bh', rfl, R2, hb2, _, _, _, _⟩
  have b1 : Below w.heap.size w w2 := b0.trans (hb2.mono b0.size)
  refine hK _ _ b1 ?_
  clear hK K
  refine wpPlan_serial (by rfl) (by rfl) (fun K hK => ?_)
  go_simp
  refine (clone5 (BH.out.stays b1).ro ho (out_one out)).mono ?_
  rintro e w3 ⟨ao3, cap3, rfl, O3, hb3⟩
  have b3 : Below w.heap.size w w3 := b1.trans (hb3.mono b1.size)
  have R3 := R2.stays hb3 (Nat.le_refl _)
  refine hK _ _ b3 ?_
  clear hK K
  refine wpPlan_serial (by rfl) (by rfl) (fun K hK => ?_)
  go_simp
  refine (clone55 (BH.out.stays b3).rt hn (acc_one tr)).mono ?_
  rintro e w4 ⟨ao4, cap4, rfl, O4, hb4⟩
  have b4 : Below w.heap.size w w4 := b3.trans (hb4.mono b3.size)
  have R4 := R3.stays hb4 (Nat.le_refl _)
  have O3' := owns_blocks O3 (fun k e => hb4.block k (O3.lt k e).2)
  refine hK _ _ b4 ?_
  clear hK K
  refine wpPlan_serial (by rfl) (by rfl) (fun K hK => ?_)
  go_simp
  refine hK _ _ b4 ?_
  clear hK K
  refine wpPlan_serial (by rfl) (by rfl) (fun K hK => ?_)
  go_simp
  have hA := (Below.refl w4.heap.size w4).alloc (Nat.le_refl _) (.cells #[.pointer (some ⟨sb', 0, none⟩), .slice ao3 out.length cap3, .int .u32 lamp, .slice ao4 tr.length cap4] 101)
  have b5 := b4.trans (hA.mono b4.size)
  refine hK _ _ b5 ?_
  clear hK K
  repeat (refine wpPlan_quiet (by rfl) (by rfl) (fun W hW => by (obtain ⟨k0, k1, k2, k3⟩ := hk W hW; go_simp; try with_reducible rfl)) (fun K hK => ?_); go_simp; refine hK _ ?_; clear hK K)
  refine wpPlan_nil ?_
  go_wp2
  go_ret
  exact ⟨_, _, w4.heap.size, sb', bp', bw', bh', _, _, rfl, ⟨by simp, by simp, by simp, by simp, O3'.alloc _, O4.alloc _, R4.stays hA (Nat.le_refl _)⟩, b5⟩
end
end Go.Proofs.YtmfhimphlackiaaDoor
