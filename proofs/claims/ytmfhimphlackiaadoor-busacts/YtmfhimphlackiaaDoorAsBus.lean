/-
  Is a bus as the document's is?
-/
import Derived.Test.YtmfhimphlackiaaDoorSeen
import Derived.Test.YtmfhimphlackiaaDoorSerial
namespace Go.Proofs.YtmfhimphlackiaaDoor
open Go.RowKit Go.Maps
open Num
set_option linter.unusedVariables false
section
variable {w : World} {bx by_ bb sb bp bw bh N : Nat} {m : Nat → Int} {wt ht : Int → Bool} {out : List Int} {lamp : Int} {tr : List Acc} {vo vt : Value} {base' db rb gb kb : Nat} {vt' : Value}
set_option maxRecDepth 100000 in
set_option maxHeartbeats 40000000 in
theorem asBus_any (B : BusSeen w bx by_ bb sb bp bw bh N m wt ht out lamp tr vo vt) (M : DBus w base' db rb gb kb m out lamp tr vt') (hn : tr.length ≤ 1000) :
    Calls Tryd.prog 35 #[.pointer (some ⟨bb, 0, none⟩), .pointer (some ⟨db, 0, none⟩)] w fun e w' => e = .returned (.bool true) ∧ Below w.heap.size w w' := by
  obtain ⟨aot, capt, hvt⟩ : ∃ ao cap, vt' = .slice ao tr.length cap := by
    rcases M.rt.2 with ⟨e, h⟩ | ⟨g, cap, cur, e, _⟩
    · exact ⟨none, 0, by rw [e, h]⟩
    · exact ⟨_, cap, e⟩
  subst hvt
  have hk := fun W => fun h : Below w.heap.size w W => (M.stays h).told
  have MH : Hid (DBus w base' db rb gb kb m out lamp tr (.slice aot tr.length capt)) := M
  have BH : Hid (BusSeen w bx by_ bb sb bp bw bh N m wt ht out lamp tr vo vt) := B
  have hou := fun W => fun h : Below w.heap.size w W => seenOut_any (BH.out.stays h)
  have hla := fun W => fun h : Below w.heap.size w W => seenLamp_any (BH.out.stays h)
  have hra := fun W => fun h : Below w.heap.size w W => seenRam_any (BH.out.stays h)
  clear M B
  have b0 : Below w.heap.size w w.drew := below_drew (Below.refl _ _)
  generalize outS out = os at hk hou
  go_enter Tryd.func35, Tryd.ntmps35
  go_upto_region 1 with fail
  refine wp_region_plan [(0, false), (2, false), (3, false), (4, false), (5, false), (1, true), (6, false), (7, false), (8, false), (10, false), (11, false), (12, false), (13, false), (9, true), (14, false), (15, false), (16, false), (17, false), (19, false), (20, false), (21, false), (22, false), (18, true), (23, true), (24, false), (25, false), (26, false), (29, false), (30, false), (31, false), (32, false), (33, false), (34, false), (35, false), (27, true), (28, true), (36, true), (37, false), (38, false), (39, false)] (fun W => Below w.heap.size w W) (by kernel_rfl) (by kernel_rfl) (fun _ _ _ d _ h => by cases d <;> exact h) b0 ?_
  repeat (refine wpPlan_quiet (by rfl) (by rfl) (fun W hW => by (obtain ⟨k0, k1, k2, k3, k4⟩ := hk W hW; go_simp; try with_reducible rfl)) (fun K hK => ?_); go_simp; refine hK _ ?_; clear hK K)
  refine wpPlan_serial (by rfl) (by rfl) (fun K hK => ?_)
  go_simp
  refine (hou _ b0).mono ?_
  rintro e w2 ⟨rfl, rfl⟩
  refine hK _ _ b0 ?_
  clear hK K
  repeat (refine wpPlan_quiet (by rfl) (by rfl) (fun W hW => by (obtain ⟨k0, k1, k2, k3, k4⟩ := hk W hW; go_simp; try with_reducible rfl)) (fun K hK => ?_); go_simp; refine hK _ ?_; clear hK K)
  refine wpPlan_serial (by rfl) (by rfl) (fun K hK => ?_)
  go_simp
  refine (hla _ b0).mono ?_
  rintro e w2 ⟨rfl, rfl⟩
  refine hK _ _ b0 ?_
  clear hK K
  repeat (refine wpPlan_quiet (by rfl) (by rfl) (fun W hW => by (obtain ⟨k0, k1, k2, k3, k4⟩ := hk W hW; go_simp; try with_reducible rfl)) (fun K hK => ?_); go_simp; refine hK _ ?_; clear hK K)
  refine wpPlan_serial (by rfl) (by rfl) (fun K hK => ?_)
  go_simp
  refine (seenTrace_any (BH.out.stays b0) hn).mono ?_
  rintro e w2 ⟨ao2, cap2, rfl, O2, hb2⟩
  have b1 : Below w.heap.size w w2 := b0.trans (hb2.mono b0.size)
  refine hK _ _ b1 ?_
  clear hK K
  refine wpPlan_serial (by rfl) (by rfl) (fun K hK => ?_)
  go_simp
  refine (sameTrace_any (b2 := base') O2 (MH.out.stays b1).rt hn).mono ?_
  rintro e w3 ⟨rfl, q2, rfl⟩
  have b2 : Below w.heap.size w (w2.drewN q2) := below_drewN b1 _
  refine hK _ _ b2 ?_
  clear hK K
  repeat (refine wpPlan_quiet (by rfl) (by rfl) (fun W hW => by (obtain ⟨k0, k1, k2, k3, k4⟩ := hk W hW; go_simp; try with_reducible rfl)) (fun K hK => ?_); go_simp; refine hK _ ?_; clear hK K)
  refine wpPlan_serial (by rfl) (by rfl) (fun K hK => ?_)
  go_simp
  refine (hra _ b2).mono ?_
  rintro e w2 ⟨rfl, rfl⟩
  refine hK _ _ b2 ?_
  clear hK K
  refine wpPlan_serial (by rfl) (by rfl) (fun K hK => ?_)
  go_simp
  refine (words_at (BH.out.stays b2).R).mono ?_
  rintro e w3 ⟨g3, rfl, W3, hb3, _⟩
  have b3 : Below w.heap.size w w3 := b2.trans (hb3.mono b2.size)
  refine hK _ _ b3 ?_
  clear hK K
  refine wpPlan_serial (by rfl) (by rfl) (fun K hK => ?_)
  go_simp
  refine (alike_at W3 (MH.out.stays b3).D.wordsAt).mono ?_
  rintro e w4 ⟨rfl, q4, rfl⟩
  have b4 : Below w.heap.size w (w3.drewN q4) := below_drewN b3 _
  refine hK _ _ b4 ?_
  clear hK K
  repeat (refine wpPlan_quiet (by rfl) (by rfl) (fun W hW => by (obtain ⟨k0, k1, k2, k3, k4⟩ := hk W hW; go_simp; try with_reducible rfl)) (fun K hK => ?_); go_simp; refine hK _ ?_; clear hK K)
  refine wpPlan_nil ?_
  go_wp2
  go_ret
  exact ⟨rfl, b4⟩
end
end Go.Proofs.YtmfhimphlackiaaDoor
