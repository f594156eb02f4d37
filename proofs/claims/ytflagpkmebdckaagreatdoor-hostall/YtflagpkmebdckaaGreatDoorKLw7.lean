/-
  The ops of any instruction.
-/
import Derived.Test.YtflagpkmebdckaaGreatDoorKOptPure
import Derived.Test.YtflagpkmebdckaaGreatDoorKIrChk2
import Derived.Test.YtflagpkmebdckaaGreatDoorKOptFns
import Derived.Test.YtflagpkmebdckaaGreatDoorKPlPure
import Derived.Test.YtflagpkmebdckaaGreatDoorJDoc6
import Derived.Test.YtflagpkmebdckaaGreatDoorKRowsI
import Derived.Test.YtflagpkmebdckaaGreatDoorKKDecode
import Derived.Test.YtflagpkmebdckaaGreatDoorKModel
import Derived.Test.YtflagpkmebdckaaGreatDoorKMk6
import Derived.Test.YtflagpkmebdckaaGreatDoorKLw6
import Derived.Test.YtflagpkmebdckaaGreatDoorQRun2
namespace Go.Proofs.YtflagpkmebdckaaGreatDoor.Low
open Go.RowKit Go.Maps
open Num
set_option linter.unusedVariables false
section
variable {w0 w : World} {lb : Nat} {pc many at_ : Int} {l : List Opx} {v : Value}
theorem kd_2 : ∀ k, k < 54 → Tab.kdL.getD k 0 = 2 → k = 31 ∨ k = 32 ∨ k = 33 ∨ k = 34 ∨ k = 7 ∨ k = 8 ∨ k = 29 ∨ k = 30 := by decide
theorem kd_4 : ∀ k, k < 54 → Tab.kdL.getD k 0 = 4 → 46 ≤ k ∧ k ≤ 50 := by decide
theorem kd_5 : ∀ k, k < 54 → Tab.kdL.getD k 0 = 5 → 46 ≤ k ∧ k ≤ 53 := by decide
theorem kd_all : ∀ k, k < 54 → Tab.kdL.getD k 0 = 1 ∨ Tab.kdL.getD k 0 = 2 ∨ Tab.kdL.getD k 0 = 3 ∨ Tab.kdL.getD k 0 = 4 ∨ Tab.kdL.getD k 0 = 5 := by decide
set_option maxRecDepth 100000 in
set_option maxHeartbeats 8000000 in
theorem lower_any (F : LAt w0 w lb pc many at_ l v) (hn : l.length ≤ 900) (p0 : 0 ≤ pc) (p1 : pc < 4294967296) (a0 : 0 ≤ at_) (a1 : at_ ≤ 30) (k : Nat) (hk : k < 54) (s t d m : Int) (m0 : 0 ≤ m) (m1 : m < 4294967296) (h3 : Tab.kdL.getD k 0 ≠ 3) :
    Calls Tryz.prog 58 #[.pointer (some ⟨lb, 0, none⟩), .agg #[.int .i64 k, .int .i64 s, .int .i64 t, .int .i64 d, .int .u32 m]] w (LP w0 w lb pc many at_ (l ++ insX pc ⟨k, s, t, d, m⟩ at_) v) := by
  have hki := fun W => K.kind_nat k hk _ rfl W
  change ∀ W, Calls Tryz.prog 91 #[.int .i64 k] W fun e w' => e = .returned (.string ⟨(Tab.kwL.getD (Tab.kdL.getD k 0) []).toArray⟩) ∧ w' = W at hki
  have hin : insX pc ⟨k, s, t, d, m⟩ at_ = if Tab.kdL.getD k 0 = 2 then brL pc ⟨k, s, t, d, m⟩ at_ else if Tab.kdL.getD k 0 = 4 then ldL ⟨k, s, t, d, m⟩ at_ else if Tab.kdL.getD k 0 = 5 then stL ⟨k, s, t, d, m⟩ at_ else sumL ⟨k, s, t, d, m⟩ at_ := by
    unfold insX
    have e : Ix.kd ⟨k, s, t, d, m⟩ = Tab.kdL.getD k 0 := by unfold Ix.kd; rw [if_pos (by simp; omega)]; rfl
    rw [e]
  rw [hin]
  clear hin
  have hb2 := kd_2 k hk
  have hb4 := kd_4 k hk
  have hb5 := kd_5 k hk
  have him := fun W => immC_any (w := W) k s t d m m0 m1
  have B : Hid _ := LB.start F k s t d m
  have hc := kd_all k hk
  clear F
  generalize Tab.kdL.getD k 0 = kd at *
  rcases hc with rfl | rfl | rfl | rfl | rfl
  · clear hb2 hb4 hb5
    rw [show Tab.kwL.getD 1 [] = [115, 117, 109] from rfl] at hki
    go_enter Tryz.func58, Tryz.ntmps58
    go_upto_region 1 with fail
    generalize hW : w.alloc (.cells #[.int .i64 k, .int .i64 s, .int .i64 t, .int .i64 d, .int .u32 m] 113) = W at B ⊢
    generalize hib : w.heap.size = ib at B ⊢
    clear hW hib
    have c0 := B.out.c0; have c1 := B.out.c1; have c2 := B.out.c2; have c3 := B.out.c3; have c4 := B.out.c4
    go_wp2_with fail
    refine (hki _).mono ?_
    rintro e W1 ⟨rfl, hb⟩
    rw [hb]; clear hb
    go_wp2_with fail
    refine (sumL_any B.out.f hn k s t d m m0 m1).mono ?_
    rintro e W2 ⟨rfl, v2, F2, L2⟩
    have B2 : Hid _ := B.out.add F2 L2
    clear c0 c1 c2 c3 c4 B F2 L2
    have B : Hid _ := B2.out
    clear B2
    have c0 := B.out.c0; have c1 := B.out.c1; have c2 := B.out.c2; have c3 := B.out.c3; have c4 := B.out.c4
    clear c0 c1 c2 c3 c4
    go_wp2
    go_end0
    have := B.out.done
    exact this
  · have hb := hb2 rfl
    clear hb2 hb4 hb5
    rw [show Tab.kwL.getD 2 [] = [98, 114, 97, 110, 99, 104] from rfl] at hki
    go_enter Tryz.func58, Tryz.ntmps58
    go_upto_region 1 with fail
    generalize hW : w.alloc (.cells #[.int .i64 k, .int .i64 s, .int .i64 t, .int .i64 d, .int .u32 m] 113) = W at B ⊢
    generalize hib : w.heap.size = ib at B ⊢
    clear hW hib
    have c0 := B.out.c0; have c1 := B.out.c1; have c2 := B.out.c2; have c3 := B.out.c3; have c4 := B.out.c4
    go_wp2_with fail
    refine (hki _).mono ?_
    rintro e W1 ⟨rfl, hb⟩
    rw [hb]; clear hb
    go_wp2_with fail
    refine (branchL_any B.out.f hn p0 p1 a0 a1 k hb s t d m).mono ?_
    rintro e W2 ⟨rfl, v2, F2, L2⟩
    have B2 : Hid _ := B.out.add F2 L2
    clear c0 c1 c2 c3 c4 B F2 L2
    have B : Hid _ := B2.out
    clear B2
    have c0 := B.out.c0; have c1 := B.out.c1; have c2 := B.out.c2; have c3 := B.out.c3; have c4 := B.out.c4
    clear c0 c1 c2 c3 c4
    go_wp2
    go_end0
    have := B.out.done
    exact this
  · exact absurd rfl h3
  · have hb := hb4 rfl
    clear hb2 hb4 hb5
    rw [show Tab.kwL.getD 4 [] = [108, 111, 97, 100] from rfl] at hki
    go_enter Tryz.func58, Tryz.ntmps58
    go_upto_region 1 with fail
    generalize hW : w.alloc (.cells #[.int .i64 k, .int .i64 s, .int .i64 t, .int .i64 d, .int .u32 m] 113) = W at B ⊢
    generalize hib : w.heap.size = ib at B ⊢
    clear hW hib
    have c0 := B.out.c0; have c1 := B.out.c1; have c2 := B.out.c2; have c3 := B.out.c3; have c4 := B.out.c4
    go_wp2_with fail
    refine (hki _).mono ?_
    rintro e W1 ⟨rfl, hb⟩
    rw [hb]; clear hb
    go_wp2_with fail
    refine (loadL_any B.out.f hn k hb s t d m m0 m1).mono ?_
    rintro e W2 ⟨rfl, v2, F2, L2⟩
    have B2 : Hid _ := B.out.add F2 L2
    clear c0 c1 c2 c3 c4 B F2 L2
    have B : Hid _ := B2.out
    clear B2
    have c0 := B.out.c0; have c1 := B.out.c1; have c2 := B.out.c2; have c3 := B.out.c3; have c4 := B.out.c4
    clear c0 c1 c2 c3 c4
    go_wp2
    go_end0
    have := B.out.done
    exact this
  · have hby := fun W => bytesC_any (w := W) k (hb5 rfl)
    have e : stL ⟨k, s, t, d, m⟩ at_ = [⟨kindS 24, szI k, s, t, immI k m, at_⟩] := rfl
    rw [if_neg (by decide), if_neg (by decide), if_pos rfl, e]
    clear e hb2 hb4 hb5
    generalize szI k = z at *
    generalize sgI k = g at *
    generalize immI k m = im at *
    rw [show Tab.kwL.getD 5 [] = [115, 116, 111, 114, 101] from rfl] at hki
    go_enter Tryz.func58, Tryz.ntmps58
    go_upto_region 1 with fail
    generalize hW : w.alloc (.cells #[.int .i64 k, .int .i64 s, .int .i64 t, .int .i64 d, .int .u32 m] 113) = W at B ⊢
    generalize hib : w.heap.size = ib at B ⊢
    clear hW hib
    have c0 := B.out.c0; have c1 := B.out.c1; have c2 := B.out.c2; have c3 := B.out.c3; have c4 := B.out.c4
    go_wp2_with fail
    refine (hki _).mono ?_
    rintro e W1 ⟨rfl, hb⟩
    rw [hb]; clear hb
    go_wp2_with fail
    refine (hby _).mono ?_
    rintro e W2 ⟨rfl, hb⟩
    have B2 : Hid _ := B.out.pure hb
    clear c0 c1 c2 c3 c4 hb B
    have B : Hid _ := B2.out
    clear B2
    have c0 := B.out.c0; have c1 := B.out.c1; have c2 := B.out.c2; have c3 := B.out.c3; have c4 := B.out.c4
    go_upto_region 9 with fail
    refine wp_region_phase 10 [(0, 0), (1, 0), (2, 0), (3, 1), (4, 0), (5, 1), (6, 1), (7, 2), (8, 2), (9, 2)] (fun W => W.cell? ⟨ib, 0, none⟩ = some (.int .i64 k) ∧ W.cell? ⟨ib, 1, none⟩ = some (.int .i64 s) ∧ W.cell? ⟨ib, 2, none⟩ = some (.int .i64 t) ∧ W.cell? ⟨ib, 3, none⟩ = some (.int .i64 d) ∧ W.cell? ⟨ib, 4, none⟩ = some (.int .u32 m)) (by kernel_rfl) (by kernel_rfl) (fun _ _ _ d _ h => by cases d <;> exact h) ⟨c0, c1, c2, c3, c4⟩ ?_
    repeat (first | (refine wpPlanZ_free (by rfl) (by rfl) (fun W => by (go_simp; try with_reducible rfl)) (fun K hK => ?_); go_simp; refine hK _ ?_; clear hK K) | (refine wpPlanZ_quiet (by rfl) (by rfl) (fun W hW => by (obtain ⟨d0, d1, d2, d3, d4⟩ := hW; go_simp; try with_reducible rfl)) (fun K hK => ?_); go_simp; refine hK _ ?_; clear hK K))
    refine wpPlanZ_serial (by rfl) (by rfl) (fun K hK => ?_)
    go_simp
    refine (him _).mono ?_
    rintro e W3 ⟨rfl, hb⟩
    have B3 : Hid _ := (B.out.pure ((Below.refl _ _).drew)).pure hb
    clear c0 c1 c2 c3 c4 hb B
    have B : Hid _ := B3.out
    clear B3
    have c0 := B.out.c0; have c1 := B.out.c1; have c2 := B.out.c2; have c3 := B.out.c3; have c4 := B.out.c4
    refine hK _ _ (fun _ => ⟨c0, c1, c2, c3, c4⟩) ?_
    clear hK K
    repeat (first | (refine wpPlanZ_free (by rfl) (by rfl) (fun W => by (go_simp; try with_reducible rfl)) (fun K hK => ?_); go_simp; refine hK _ ?_; clear hK K) | (refine wpPlanZ_quiet (by rfl) (by rfl) (fun W hW => by (obtain ⟨d0, d1, d2, d3, d4⟩ := hW; go_simp; try with_reducible rfl)) (fun K hK => ?_); go_simp; refine hK _ ?_; clear hK K))
    refine wpPlanZ_serial (by rfl) (by rfl) (fun K hK => ?_)
    go_simp
    refine hK _ _ (fun _ => ⟨c0, c1, c2, c3, c4⟩) ?_
    clear hK K
    refine wpPlanZ_serial (by rfl) (by rfl) (fun K hK => ?_)
    go_simp
    refine (add_any B.out.f (by omega) ⟨#[115, 116, 111, 114, 101]⟩ z s t im 0).mono ?_
    rintro e W4 ⟨rfl, v4, F4, L4⟩
    have B4 : Hid _ := B.out.add F4 L4
    clear c0 c1 c2 c3 c4 B F4 L4
    have B : Hid _ := B4.out
    clear B4
    have c0 := B.out.c0; have c1 := B.out.c1; have c2 := B.out.c2; have c3 := B.out.c3; have c4 := B.out.c4
    refine hK _ _ (fun _ => ⟨c0, c1, c2, c3, c4⟩) ?_
    clear hK K
    refine wpPlanZ_nil ?_
    clear c0 c1 c2 c3 c4
    go_wp2
    go_end0
    have := B.out.done
    exact this
end
end Go.Proofs.YtflagpkmebdckaaGreatDoor.Low
/-
  sameOps, of two slices that hold the same ops.
-/
namespace Go.Proofs.YtflagpkmebdckaaGreatDoor
open Go.RowKit Go.Maps
open Num
set_option linter.unusedVariables false
end Go.Proofs.YtflagpkmebdckaaGreatDoor
/-
  each: rows of one op.
-/
namespace Go.Proofs.YtflagpkmebdckaaGreatDoor
open Go.RowKit Go.Maps
open Num
set_option linter.unusedVariables false
/-- rows of ops -/
structure RowsIn (w : World) (v : Value) (ll : List (List Opx)) : Prop where
  sh : ∃ ao cap, v = .slice ao ll.length cap ∧ ll.length ≤ cap ∧ (0 < ll.length → ∃ b, ao = some ⟨b, 0, none⟩ ∧ ∀ i l, ll[i]? = some l → ∃ u, w.cell? ⟨b, i, none⟩ = some u ∧ OpsIn w u l)
theorem RowsIn.stays {w w' : World} {v : Value} {ll : List (List Opx)} (R : RowsIn w v ll) (h : Below w.heap.size w w') : RowsIn w' v ll := by
  obtain ⟨ao, cap, e, hcp, hh⟩ := R.sh
  exact ⟨ao, cap, e, hcp, fun hp => let ⟨b, eb, hc⟩ := hh hp; ⟨b, eb, fun i l hi => let ⟨u, hu, hO⟩ := hc i l hi; ⟨u, (h.cell (World.block_lt_of_cell? _ _ hu)).trans hu, hO.stays h⟩⟩⟩
/-- rows of one op: each in a block of its own, apart from the row vo that holds them -/
def Ones (w : World) (vo : Value) (us : List Value) (l : List Opx) : Prop := us.length = l.length ∧ ∀ (k : Nat) (u : Value) (o : Opx), us[k]? = some u → l[k]? = some o → ∃ g, u = .slice (some ⟨g, 0, none⟩) 1 1 ∧ OpsIn w u [o] ∧ vo.ownBlock ≠ some g ∧ g < w.heap.size
theorem OpsIn.block1 {w w' : World} {g : Nat} {o : Opx} (A : OpsIn w (.slice (some ⟨g, 0, none⟩) 1 1) [o]) (h : w'.heap[g]? = w.heap[g]?) : OpsIn w' (.slice (some ⟨g, 0, none⟩) 1 1) [o] := by
  obtain ⟨ao, cap, e, hc, hh⟩ := A.sh
  injection e with e1 e2 e3
  subst e1
  subst e3
  refine ⟨⟨some ⟨g, 0, none⟩, 1, rfl, hc, fun hp => ?_⟩, A.ok⟩
  obtain ⟨b, off, e, hcell⟩ := hh hp
  injection e with e
  injection e with e1 e2
  subst e1
  subst e2
  exact ⟨g, 0, rfl, fun i o hi j u hu => (World.cell?_of_block (a := ⟨g, 0 + i * 6 + j, none⟩) h).trans (hcell i o hi j u hu)⟩
/-- one row more: first its own block, then the row's place, then the row that holds them -/
theorem Ones.snoc {w W w' : World} {vo vo' : Value} {us : List Value} {l : List Opx} {o : Opx} (H : Ones w vo us l) (hv : ∀ k, vo.ownBlock = some k → k < w.heap.size) (hW : Below w.heap.size w W) (g : Nat) (hg : w.heap.size ≤ g) (hg2 : g < W.heap.size) (hO : OpsIn W (.slice (some ⟨g, 0, none⟩) 1 1) [o]) (hgr : W.grownBy w' vo.ownBlock) (hm : Moved W vo vo') :
    Ones w' vo' (us ++ [.slice (some ⟨g, 0, none⟩) 1 1]) (l ++ [o]) := by
  have hsz := hgr.size
  have blk : ∀ k, k < W.heap.size → vo.ownBlock ≠ some k → w'.heap[k]? = W.heap[k]? := fun k hk hne => hgr.block k hk (Ne.symm hne)
  have nv : ∀ k, k < W.heap.size → vo.ownBlock ≠ some k → vo'.ownBlock ≠ some k := fun k hk hne h => by
    rcases hm k h with h | h
    · exact hne h
    · omega
  have hgo : vo.ownBlock ≠ some g := fun h => by have := hv g h; omega
  refine ⟨by simp [H.1], fun k u o' hu ho => ?_⟩
  by_cases hk : k < us.length
  · rw [List.getElem?_append_left hk] at hu
    rw [List.getElem?_append_left (by rw [← H.1]; exact hk)] at ho
    obtain ⟨a, ea, hA, hn, hl⟩ := H.2 k u o' hu ho
    subst ea
    have hl2 : a < W.heap.size := by have := hW.size; omega
    exact ⟨a, rfl, (hA.stays hW).block1 (blk a hl2 hn), nv a hl2 hn, by omega⟩
  · rw [List.getElem?_append_right (by omega)] at hu
    rw [List.getElem?_append_right (by rw [← H.1]; omega), ← H.1] at ho
    have h0 : k - us.length = 0 := by
      rcases Nat.eq_zero_or_pos (k - us.length) with h | h
      · exact h
      · rw [List.getElem?_eq_none (by simp; omega)] at hu; cases hu
    rw [h0] at hu ho
    obtain rfl : Value.slice (some ⟨g, 0, none⟩) 1 1 = u := by simpa using hu
    obtain rfl : o = o' := by simpa using ho
    exact ⟨g, rfl, hO.block1 (blk g hg2 hgo), nv g hg2 hgo, by omega⟩
/-- the rows at the end -/
theorem Ones.rows {w : World} {base : Nat} {vo : Value} {us : List Value} {l : List Opx} (H : Ones w vo us l) (ho : w.ownsRow base 52 1 vo us.length us) : RowsIn w vo (eachL l) := by
  have hlen : (eachL l).length = us.length := by unfold eachL; rw [List.length_map, H.1]
  obtain ⟨h1, h2⟩ := ho
  rcases h2 with ⟨hv, hn⟩ | ⟨g, cap, cur, hv, hb, hg, hr⟩
  · exact ⟨none, 0, by rw [hv, hlen, hn], by omega, fun hp => by omega⟩
  · obtain ⟨r1, r2, r3, r4⟩ := hr
    refine ⟨some ⟨g, 0, none⟩, cap, by rw [hv, hlen], by omega, fun _ => ⟨g, rfl, fun i row hi => ?_⟩⟩
    have hil : i < us.length := by rw [← hlen]; exact (List.getElem?_eq_some_iff.1 hi).1
    obtain ⟨o, ho, rfl⟩ : ∃ o, l[i]? = some o ∧ [o] = row := by
      unfold eachL at hi
      rw [List.getElem?_map] at hi
      cases hx : l[i]? with
      | none => rw [hx] at hi; cases hi
      | some o => rw [hx] at hi; exact ⟨o, rfl, by simpa using hi⟩
    obtain ⟨u, hu⟩ : ∃ u, us[i]? = some u := ⟨_, List.getElem?_eq_getElem hil⟩
    obtain ⟨a, rfl, hA, _, _⟩ := H.2 i u o hu ho
    refine ⟨_, ?_, hA⟩
    rw [cell_of_row _ _ _ _ _ _ hg]
    have : (cur.toList.take (us.length * 1))[i]? = some (.slice (some ⟨a, 0, none⟩) 1 1) := by rw [r4]; exact hu
    rw [List.getElem?_take, if_pos (by omega)] at this
    rw [← Array.getElem?_toList]; exact this
theorem own_at {w : World} {base : Nat} {e : TypeId} {size n : Nat} {v : Value} {xs : List Value} (h : w.ownsRow base e size v n xs) : ∀ k, v.ownBlock = some k → k < w.heap.size ∧ base ≤ k := by
  intro k hk
  rcases h.2 with ⟨hv, _⟩ | ⟨g, cap, cur, hv, hb, hg, _⟩
  · subst hv; cases hk
  · subst hv
    obtain rfl : g = k := by simpa [Value.ownBlock] using hk
    exact ⟨(Array.getElem?_eq_some_iff.1 hg).1, hb⟩
end Go.Proofs.YtflagpkmebdckaaGreatDoor
/-
  Package host: read.
-/
namespace Go.Proofs.YtflagpkmebdckaaGreatDoor
open Go.RowKit Go.Maps
open Num
set_option linter.unusedVariables false
def efL (l : List Ef) : List Value := l.flatMap fun e => (efA e).toList
theorem efL_snoc (l : List Ef) (r : Ef) : efL (l ++ [r]) = efL l ++ (efA r).toList := by unfold efL; rw [List.flatMap_append]; simp
theorem efL_get : ∀ (p : List Ef) (j : Nat) (q : Ef) (i : Nat), p[j]? = some q → i < 7 → (efL p)[j * 7 + i]? = (efA q).toList[i]?
  | [], j, q, i, h, _ => by simp at h
  | r :: p, 0, q, i, h, hi => by
    obtain rfl : r = q := by simpa using h
    show ((efA r).toList ++ efL p)[0 * 7 + i]? = _
    rw [Nat.zero_mul, Nat.zero_add, List.getElem?_append_left (by show i < 7; exact hi)]
  | r :: p, j + 1, q, i, h, hi => by
    show ((efA r).toList ++ efL p)[(j + 1) * 7 + i]? = _
    have e : (efA r).toList.length = 7 := rfl
    rw [List.getElem?_append_right (by rw [e]; omega), e, show (j + 1) * 7 + i - 7 = j * 7 + i by omega]
    exact efL_get p j q i (by simpa using h) hi
theorem efA_one (r : Ef) : ∀ u ∈ (efA r).toList, u.oneCell' = true := by
  intro u h; simp [efA] at h; rcases h with rfl | rfl | rfl | rfl | rfl | rfl | rfl <;> rfl
theorem infoEf : (Tryz.prog.info? 160).map (fun i => (i.zero, i.size, i.bytes)) = some (some (.agg #[.int .i64 0, .int .u32 0, .int .u32 0, .int .i64 0, .int .u32 0, .bool false, .int .u32 0]), 7, 48) := by kernel_rfl
theorem end_putG {W : World} {B : Nat} {u0 u1 : Value} (z0 : W.cell? ⟨B, 0, none⟩ = some u0) (z1 : W.cell? ⟨B, 1, none⟩ = some u1) (v0 v1 : Value) : ((W.setCell ⟨B, 0, none⟩ v0).setCell ⟨B, 1, none⟩ v1).cell? ⟨B, 0, none⟩ = some v0 ∧ ((W.setCell ⟨B, 0, none⟩ v0).setCell ⟨B, 1, none⟩ v1).cell? ⟨B, 1, none⟩ = some v1 := by
  have a1 := World.cell?_setCell_same W ⟨B, 0, none⟩ v0 z0
  have a2 : (W.setCell ⟨B, 0, none⟩ v0).cell? ⟨B, 1, none⟩ = some u1 := by rw [World.cell?_setCell_other _ _ _ _ (by intro e; injection e with e1 e2; omega)]; exact z1
  exact ⟨by rw [World.cell?_setCell_other _ _ _ _ (by intro e; injection e with e1 e2; omega)]; exact a1, World.cell?_setCell_same _ _ _ a2⟩
theorem end_loadG {w : World} {B : Nat} {a b : Value} (z0 : w.cell? ⟨B, 0, none⟩ = some a) (z1 : w.cell? ⟨B, 1, none⟩ = some b) : (loadVar 84 ⟨B, 0, none⟩).run Tryz.prog w = .ok (.agg #[a, b]) w := by
  simp [go_sem, z0, z1]
theorem results_tmp_cellG {fn : Func} {p u : Tmp} {ty : TypeId} {A : Addr} {x : Value} (h : fn.results = #[.tmp u, .cell p ty]) (tmps : Array Value) (P : Program) (w : World) (hp : tmps.getD p undef = .pointer (some A)) (hl : (loadVar ty A).run P w = .ok x w) :
    (results fn tmps).run P w = .ok (.tuple #[tmps.getD u undef, x]) w := by
  simp only [results, h]
  simp only [asAddr, hp, Sem.run_bind, List.mapM_toArray, List.mapM_cons, List.mapM_nil, Sem.run_map, Sem.run_pure, Result.andThen, hl]
  simp
/-- what a row's reading ends with -/
def RdPost (w : World) (es : List Ef) (t : Option Int) (e : Ending) (w' : World) : Prop :=
  match t with
  | some t => e = .returned (.tuple #[.slice none 0 0, .agg #[.bool true, .int .i64 t]]) ∧ Below w.heap.size w w'
  | none => ∃ u, e = .returned (.tuple #[u, .agg #[.bool false, .int .i64 0]]) ∧ w'.ownsRow (w.heap.size + 1) 160 7 u es.length (efL es) ∧ Below w.heap.size w w'
section
variable {w : World} {base mb stb sb bp bw bh N : Nat} {X : Nat → Int} {p : List Pq} {vi : Value} {m : Nat → Int} {wt ht : Int → Bool}
def efs (wt : Int → Bool) (X M : Nat → Int) (row : List Opx) : List Ef := row.map fun o => efO o (resZ wt X M o)
theorem efs_snoc {wt : Int → Bool} {X M : Nat → Int} {row : List Opx} {j : Nat} {o : Opx} (h : row[j]? = some o) : efs wt X M (row.take (j + 1)) = efs wt X M (row.take j) ++ [efO o (resZ wt X M o)] := by
  unfold efs; rw [take_snoc' h, List.map_append]; rfl
set_option maxRecDepth 100000 in
set_option maxHeartbeats 8000000 in
theorem hread_any (pe : Nat → Addr) (E : Eg pe w) (R : RamIs w sb bp bw bh N m wt ht) (G : GAt w base mb stb sb X p vi) (hp : p.length ≤ 1000) {v : Value} {row : List Opx} (A : OpsIn w v row) (hl : row.length ≤ 1000) (many : Int) (hw : ∀ o ∈ row, opE o many = 0) :
    Calls Tryz.prog 82 #[.pointer (some ⟨mb, 0, none⟩), v] w fun e w' => RdPost w (efs wt X (vw m (pqs p)) row) (trapZ wt X (vw m (pqs p)) row) e w' := by
  have HRD : Hid (∀ W, Below w.heap.size w W → ∀ o ∈ row, Calls Tryz.prog 78 #[.pointer (some ⟨mb, 0, none⟩), opV o] W (ReadPost W o (resZ wt X (vw m (pqs p)) o))) := fun W hW o ho => read_any pe (E.stays hW) (R.stays hW (Nat.le_refl _)) (G.stays hW) hp o (A.ok o ho) many (hw o ho)
  generalize vw m (pqs p) = M at *
  obtain ⟨ao, cap, rfl, hc, hh⟩ := A.sh
  have HH : Hid (0 < row.length → ∃ b off : Nat, ao = some ⟨b, off, none⟩ ∧ ∀ (i : Nat) (o : Opx), row[i]? = some o → ∀ (j : Nat) (u : Value), (opC o)[j]? = some u → w.cell? ⟨b, off + i * 6 + j, none⟩ = some u) := hh
  obtain ⟨i0, hi, hz0, hz1, hz2⟩ := info_parts infoEf
  obtain ⟨tz, htz⟩ : ∃ tz, trapZ wt X M row = tz := ⟨_, rfl⟩
  have HTZ : Hid (trapZ wt X M row = tz) := htz
  rw [htz]
  clear htz E R G A hh hw
  have B0 : Hid (Below w.heap.size w (w.alloc (.cells #[.bool false, .int .i64 0] 84))) := (Below.refl _ _).alloc (Nat.le_refl _) _
  have e0 : (w.alloc (.cells #[.bool false, .int .i64 0] 84)).cell? ⟨w.heap.size, 0, none⟩ = some (.bool false) := by simp
  have e1 : (w.alloc (.cells #[.bool false, .int .i64 0] 84)).cell? ⟨w.heap.size, 1, none⟩ = some (.int .i64 0) := by simp
  have ef : ∀ j, (w.alloc (.cells #[.bool false, .int .i64 0] 84)).frozen? ⟨w.heap.size, j, none⟩ = false := fun j => World.frozen?_alloc_at _ _ _ _ rfl
  have hVs : (w.alloc (.cells #[.bool false, .int .i64 0] 84)).heap.size = w.heap.size + 1 := by simp
  go_enter Tryz.func82, Tryz.ntmps82
  go_upto_region 1 with fail
  generalize w.alloc (.cells #[.bool false, .int .i64 0] 84) = V at *
  have hl' : (row.length : Int) ≤ 1000 := by omega
  go_wp2_with (at_make; refine wpList_make_own _ rfl _ _ 167 rfl (w.heap.size + 1) 160 i0 (.agg #[.int .i64 0, .int .u32 0, .int .u32 0, .int .i64 0, .int .u32 0, .bool false, .int .u32 0]) 7 Tryz.underlying167 hi hz0 hz1 _ _ _ row.length rfl rfl rfl (by rw [hz2]; omega) (by unfold maxLen; omega) (by omega) ?_; intro w1 hown1 hg1)
  have hBV : Below (w.heap.size + 1) V w1 := ⟨hg1.os, hg1.tape, hg1.output, hg1.size, fun k hk => hg1.block k (by omega) (by simp)⟩
  clear hg1
  rw [hVs] at hown1
  go_loopw [6, 16] (fun u i wr => ∃ j : Nat, j ≤ row.length ∧ i = .int .i64 j ∧ wr.ownsRow (w.heap.size + 1) 160 7 u j (efL (efs wt X M (row.take j))) ∧ Hid (∀ o ∈ row.take j, (resZ wt X M o).trap = false) ∧ Below (w.heap.size + 1) V wr) (fun _ i _ => row.length - (intOf i).toNat)
  case atStart => exact ⟨0, Nat.zero_le _, rfl, hown1, (by intro o ho; simp at ho), hBV⟩
  case round =>
    obtain ⟨j, hj, rfl, hown, HNT, hB⟩ := hrel
    have hBw : Hid (Below w.heap.size w wr) := B0.out.trans (hB.mono (by omega))
    have hnr : w.heap.size < wr.heap.size := by have := hB.size; omega
    have r0 := (hB.cell (p := ⟨w.heap.size, 0, none⟩) (show w.heap.size < w.heap.size + 1 by omega)).trans e0
    have r1 := (hB.cell (p := ⟨w.heap.size, 1, none⟩) (show w.heap.size < w.heap.size + 1 by omega)).trans e1
    have rf : ∀ k, wr.frozen? ⟨w.heap.size, k, none⟩ = false := fun k => (hB.frozen (p := ⟨w.heap.size, k, none⟩) (show w.heap.size < w.heap.size + 1 by omega)).trans (ef k)
    have HB : Hid (Below (w.heap.size + 1) V wr) := hB
    have HOW : Hid (wr.ownsRow (w.heap.size + 1) 160 7 u6 j (efL (efs wt X M (row.take j)))) := hown
    clear hB hown hown1 hBV e0 e1 ef
    by_cases hlt : j < row.length
    · obtain ⟨o, ho⟩ : ∃ o, row[j]? = some o := ⟨_, List.getElem?_eq_getElem hlt⟩
      obtain ⟨b, off, rfl, hcell⟩ := HH.out (by omega)
      obtain ⟨x0, x1, x2, x3, x4, x5⟩ := op_cells (w := wr) (fun k u hk => by rw [hBw.out.cell (World.block_lt_of_cell? _ _ (hcell j o ho k u hk))]; exact hcell j o ho k u hk)
      have zb := World.block_lt_of_cell? _ _ x0
      have hlt' : (j : Int) < row.length := by omega
      have hB1 : Hid (Below wr.heap.size wr (wr.alloc (.cells #[.string o.s, .int .i64 o.d, .int .i64 o.a, .int .i64 o.b, .int .u32 o.i, .int .i64 o.t] 139))) := (Below.refl _ _).alloc (Nat.le_refl _) _
      have hrd := HRD.out (wr.alloc (.cells #[.string o.s, .int .i64 o.d, .int .i64 o.a, .int .i64 o.b, .int .u32 o.i, .int .i64 o.t] 139)) (hBw.out.trans (hB1.out.mono hBw.out.size)) o (List.mem_of_getElem? ho)
      have c5 : (wr.alloc (.cells #[.string o.s, .int .i64 o.d, .int .i64 o.a, .int .i64 o.b, .int .u32 o.i, .int .i64 o.t] 139)).cell? ⟨wr.heap.size, 5, none⟩ = some (.int .i64 o.t) := by simp
      have c0 : (wr.alloc (.cells #[.string o.s, .int .i64 o.d, .int .i64 o.a, .int .i64 o.b, .int .u32 o.i, .int .i64 o.t] 139)).cell? ⟨wr.heap.size, 0, none⟩ = some (.string o.s) := by simp
      have c1 : (wr.alloc (.cells #[.string o.s, .int .i64 o.d, .int .i64 o.a, .int .i64 o.b, .int .u32 o.i, .int .i64 o.t] 139)).cell? ⟨wr.heap.size, 1, none⟩ = some (.int .i64 o.d) := by simp
      have c2 : (wr.alloc (.cells #[.string o.s, .int .i64 o.d, .int .i64 o.a, .int .i64 o.b, .int .u32 o.i, .int .i64 o.t] 139)).cell? ⟨wr.heap.size, 2, none⟩ = some (.int .i64 o.a) := by simp
      have c3 : (wr.alloc (.cells #[.string o.s, .int .i64 o.d, .int .i64 o.a, .int .i64 o.b, .int .u32 o.i, .int .i64 o.t] 139)).cell? ⟨wr.heap.size, 3, none⟩ = some (.int .i64 o.b) := by simp
      have c4 : (wr.alloc (.cells #[.string o.s, .int .i64 o.d, .int .i64 o.a, .int .i64 o.b, .int .u32 o.i, .int .i64 o.t] 139)).cell? ⟨wr.heap.size, 4, none⟩ = some (.int .u32 o.i) := by simp
      have HTT : Hid ((resZ wt X M o).trap = true → tz = some o.t) := fun ht => by rw [← HTZ.out, trapZ_at ho ht HNT.out]
      have HSN : Hid (efL (efs wt X M (row.take (j + 1))) = efL (efs wt X M (row.take j)) ++ (efA (efO o (resZ wt X M o))).toList) := by show _ = _; rw [efs_snoc ho, efL_snoc]
      have HNX : Hid ((resZ wt X M o).trap = false → ∀ q ∈ row.take (j + 1), (resZ wt X M q).trap = false) := fun ht q hq => by
        rw [take_snoc' ho] at hq
        rcases List.mem_append.1 hq with h | h
        · exact HNT.out q h
        · rw [List.mem_singleton.1 h]; exact ht
      unfold opV at hrd
      generalize hRO : resZ wt X M o = ro at *
      clear hcell ho hRO
      go_upto_region 5 with fail
      generalize hWW : wr.alloc (.cells #[.string o.s, .int .i64 o.d, .int .i64 o.a, .int .i64 o.b, .int .u32 o.i, .int .i64 o.t] 139) = W1 at *
      have hsz1 : W1.heap.size = wr.heap.size + 1 := by rw [← hWW, World.size_alloc]
      clear hWW x0 x1 x2 x3 x4 x5
      go_wp2_with fail
      refine hrd.mono ?_
      rintro e w2 ⟨⟨E, rfl, hE⟩, hb2⟩
      have hBw2 : Hid (Below wr.heap.size wr w2) := hB1.out.trans (hb2.mono (by omega))
      have k5 : w2.cell? ⟨wr.heap.size, 5, none⟩ = some (.int .i64 o.t) := (hb2.cell (p := ⟨wr.heap.size, 5, none⟩) (show wr.heap.size < W1.heap.size by omega)).trans c5
      have hsz2 : wr.heap.size < w2.heap.size := by have := hb2.size; omega
      unfold efA
      have hB3 : Hid (Below wr.heap.size wr (w2.alloc (.cells #[.int .i64 E.r, .int .u32 E.v, .int .u32 E.a, .int .i64 E.s, .int .u32 E.sv, .bool E.lv, .int .u32 E.to] 160))) := hBw2.out.alloc (by omega) _
      have j5 : (w2.alloc (.cells #[.int .i64 E.r, .int .u32 E.v, .int .u32 E.a, .int .i64 E.s, .int .u32 E.sv, .bool E.lv, .int .u32 E.to] 160)).cell? ⟨wr.heap.size, 5, none⟩ = some (.int .i64 o.t) := (World.grownBy_alloc w2 _ none).cell k5 (by simp)
      have f0 : (w2.alloc (.cells #[.int .i64 E.r, .int .u32 E.v, .int .u32 E.a, .int .i64 E.s, .int .u32 E.sv, .bool E.lv, .int .u32 E.to] 160)).cell? ⟨w2.heap.size, 0, none⟩ = some (.int .i64 E.r) := by simp
      have f1 : (w2.alloc (.cells #[.int .i64 E.r, .int .u32 E.v, .int .u32 E.a, .int .i64 E.s, .int .u32 E.sv, .bool E.lv, .int .u32 E.to] 160)).cell? ⟨w2.heap.size, 1, none⟩ = some (.int .u32 E.v) := by simp
      have f2 : (w2.alloc (.cells #[.int .i64 E.r, .int .u32 E.v, .int .u32 E.a, .int .i64 E.s, .int .u32 E.sv, .bool E.lv, .int .u32 E.to] 160)).cell? ⟨w2.heap.size, 2, none⟩ = some (.int .u32 E.a) := by simp
      have f3 : (w2.alloc (.cells #[.int .i64 E.r, .int .u32 E.v, .int .u32 E.a, .int .i64 E.s, .int .u32 E.sv, .bool E.lv, .int .u32 E.to] 160)).cell? ⟨w2.heap.size, 3, none⟩ = some (.int .i64 E.s) := by simp
      have f4 : (w2.alloc (.cells #[.int .i64 E.r, .int .u32 E.v, .int .u32 E.a, .int .i64 E.s, .int .u32 E.sv, .bool E.lv, .int .u32 E.to] 160)).cell? ⟨w2.heap.size, 4, none⟩ = some (.int .u32 E.sv) := by simp
      have f5 : (w2.alloc (.cells #[.int .i64 E.r, .int .u32 E.v, .int .u32 E.a, .int .i64 E.s, .int .u32 E.sv, .bool E.lv, .int .u32 E.to] 160)).cell? ⟨w2.heap.size, 5, none⟩ = some (.bool E.lv) := by simp
      have f6 : (w2.alloc (.cells #[.int .i64 E.r, .int .u32 E.v, .int .u32 E.a, .int .i64 E.s, .int .u32 E.sv, .bool E.lv, .int .u32 E.to] 160)).cell? ⟨w2.heap.size, 6, none⟩ = some (.int .u32 E.to) := by simp
      clear hrd hb2 c0 c1 c2 c3 c4 c5 hB1 hsz1 HRD HH
      cases ht : ro.trap with
      | true =>
        go_upto_region 7 with fail
        generalize w2.alloc (.cells #[.int .i64 E.r, .int .u32 E.v, .int .u32 E.a, .int .i64 E.s, .int .u32 E.sv, .bool E.lv, .int .u32 E.to] 160) = W3 at *
        have q0 := (hB3.out.cell (p := ⟨w.heap.size, 0, none⟩) hnr).trans r0
        have q1 := (hB3.out.cell (p := ⟨w.heap.size, 1, none⟩) hnr).trans r1
        have qf : ∀ k, W3.frozen? ⟨w.heap.size, k, none⟩ = false := fun k => (hB3.out.frozen (p := ⟨w.heap.size, k, none⟩) hnr).trans (rf k)
        have hq3 : w.heap.size < W3.heap.size := by have := hB3.out.size; omega
        refine wp_region_phase 4 [(0, 0), (1, 1), (2, 0), (3, 0), (4, 2)] (fun W => W.cell? ⟨wr.heap.size, 5, none⟩ = some (.int .i64 o.t)) (by kernel_rfl) (by kernel_rfl) (fun _ _ _ d _ h => by cases d <;> exact h) j5 ?_
        refine wpPlanZ_free (by rfl) (by rfl) (fun W => by (go_simp; try with_reducible rfl)) (fun K hK => ?_); go_simp; refine hK _ ?_; clear hK K
        refine wpPlanZ_quiet (by rfl) (by rfl) (fun W hW => by (go_simp; try with_reducible rfl)) (fun K hK => ?_); go_simp; refine hK _ ?_; clear hK K
        refine wpPlanZ_free (by rfl) (by rfl) (fun W => by (go_simp; try with_reducible rfl)) (fun K hK => ?_); go_simp; refine hK _ ?_; clear hK K
        refine wpPlanZ_free (by rfl) (by rfl) (fun W => by (go_simp; try with_reducible rfl)) (fun K hK => ?_); go_simp; refine hK _ ?_; clear hK K
        refine wpPlanZ_serial (by rfl) (by rfl) (fun K hK => ?_)
        go_simp
        refine hK _ _ (fun h => absurd h (by decide)) ?_
        clear hK K
        refine wpPlanZ_nil ?_
        obtain ⟨g0, g1⟩ := end_putG q0 q1 (.bool true) (.int .i64 o.t)
        go_wp2
        refine bodyPost_ret (results_tmp_cellG (A := ⟨w.heap.size, 0, none⟩) rfl _ _ _ rfl (end_loadG ((cell_drewG _ _).trans g0) ((cell_drewG _ _).trans g1))) rfl ?_
        rw [HTT.out ht]
        refine ⟨rfl, ?_⟩
        have hBf : Below w.heap.size w W3 := hBw.out.trans (hB3.out.mono hBw.out.size)
        exact ((hBf.setCell (p := ⟨w.heap.size, 0, none⟩) (Nat.le_refl _) _).setCell (p := ⟨w.heap.size, 1, none⟩) (Nat.le_refl _) _).drew
      | false =>
        have hEE := hE ht
        have HN := HNX.out ht
        have HNH : Hid (∀ q ∈ row.take (j + 1), (resZ wt X M q).trap = false) := HN
        have HS2 : Hid (efL (efs wt X M (row.take (j + 1))) = efL (efs wt X M (row.take j)) ++ (efA E).toList) := by show _ = _; rw [HSN.out, hEE]
        clear hE hEE HN HNX HTT HSN
        go_upto_region 8 with fail
        generalize hWW : w2.alloc (.cells #[.int .i64 E.r, .int .u32 E.v, .int .u32 E.a, .int .i64 E.s, .int .u32 E.sv, .bool E.lv, .int .u32 E.to] 160) = W3 at *
        have hsz3 : W3.heap.size = w2.heap.size + 1 := by rw [← hWW, World.size_alloc]
        clear hWW
        have hnews : ∀ (k : Nat) (u : Value), (efA E).toList[k]? = some u → (W3.alloc (.cells #[.int .i64 E.r, .int .u32 E.v, .int .u32 E.a, .int .i64 E.s, .int .u32 E.sv, .bool E.lv, .int .u32 E.to] 160)).cell? ((⟨W3.heap.size, 0, none⟩ : Addr).add k) = some u := by
          intro k u hk
          rw [add_lit, cell_of_row _ _ _ _ _ _ (heap_alloc_new W3 _)]
          rw [← Array.getElem?_toList]; exact hk
        rw [hsz3] at hnews
        have HOW3 : Hid ((W3.alloc (.cells #[.int .i64 E.r, .int .u32 E.v, .int .u32 E.a, .int .i64 E.s, .int .u32 E.sv, .bool E.lv, .int .u32 E.to] 160)).ownsRow (w.heap.size + 1) 160 7 u6 j (efL (efs wt X M (row.take j)))) := World.ownsRow.alloc (owns_blocks HOW.out (fun k hk => hB3.out.block k (own_at HOW.out k hk).1)) _
        have hsz4 : (W3.alloc (.cells #[.int .i64 E.r, .int .u32 E.v, .int .u32 E.a, .int .i64 E.s, .int .u32 E.sv, .bool E.lv, .int .u32 E.to] 160)).heap.size = w2.heap.size + 2 := by simp [hsz3]
        have hB4 : Hid (Below wr.heap.size wr (W3.alloc (.cells #[.int .i64 E.r, .int .u32 E.v, .int .u32 E.a, .int .i64 E.s, .int .u32 E.sv, .bool E.lv, .int .u32 E.to] 160))) := hB3.out.alloc (by omega) _
        go_wp2_with (at_builtin; refine wpList_append_moved rfl _ _ 167 rfl (w.heap.size + 1) 160 i0 (.agg #[.int .i64 0, .int .u32 0, .int .u32 0, .int .i64 0, .int .u32 0, .bool false, .int .u32 0]) 7 48 Tryz.underlying167 hi hz0 hz1 hz2 rfl (by decide) u6 j (efL (efs wt X M (row.take j))) rfl HOW3.out ⟨w2.heap.size + 1, 0, none⟩ 1 1 (efA E).toList rfl rfl hnews (efA_one E) (by unfold maxLen; omega) (by omega) (by omega) ?_; intro v4 w4 ho4 hg4 hm4)
        have K1 : Hid (w4.ownsRow (w.heap.size + 1) 160 7 v4 (j + 1) (efL (efs wt X M (row.take (j + 1))))) := by rw [HS2.out]; exact ho4
        have K2 : Hid (Below (w.heap.size + 1) V w4) := (HB.out.trans (hB4.out.mono (by omega))).grown hg4 (by omega) (fun k hk => (own_at HOW3.out k hk).2)
        clear ho4 hg4 hm4 hnews HOW3
        go_roundw
        case rel => exact ⟨j + 1, by omega, by go_num, K1.out, HNH.out, K2.out⟩
        case measure => simp [intOf]; omega
    · obtain rfl : j = row.length := by omega
      have HTN : Hid (tz = none) := by
        show _ = _
        rw [← HTZ.out]
        exact trapZ_none (fun o ho => HNT.out o (by rw [List.take_length]; exact ho))
      have HO2 : Hid (wr.ownsRow (w.heap.size + 1) 160 7 u6 (efs wt X M row).length (efL (efs wt X M row))) := by
        have := HOW.out
        rw [List.take_length] at this
        unfold efs at this ⊢
        rw [List.length_map]; exact this
      clear HOW HH HRD
      go_wp2
      obtain ⟨g0, g1⟩ := end_putG r0 r1 (.bool false) (.int .i64 0)
      refine bodyPost_ret (results_tmp_cellG (A := ⟨w.heap.size, 0, none⟩) rfl _ _ _ rfl (end_loadG g0 g1)) rfl ?_
      rw [HTN.out]
      refine ⟨_, rfl, ?_, (hBw.out.setCell (p := ⟨w.heap.size, 0, none⟩) (Nat.le_refl _) _).setCell (p := ⟨w.heap.size, 1, none⟩) (Nat.le_refl _) _⟩
      exact owns_blocks HO2.out (fun k hk => by
        have := (own_at HO2.out k hk).2
        exact (Below.heap_setCell _ ⟨w.heap.size, 1, none⟩ _ k (by show k ≠ w.heap.size; omega)).trans (Below.heap_setCell _ ⟨w.heap.size, 0, none⟩ _ k (by show k ≠ w.heap.size; omega)))
end
end Go.Proofs.YtflagpkmebdckaaGreatDoor
/-
  Package host: write.
-/
namespace Go.Proofs.YtflagpkmebdckaaGreatDoor
open Go.RowKit Go.Maps
open Num
set_option linter.unusedVariables false
theorem Kx.transM {w w1 w2 : World} {mb : Nat} {vi vj : Value} (h : Kx w w1 mb vi) (hm : Moved w vi vj) (g : Kx w1 w2 mb vj) : Kx w w2 mb vi :=
  ⟨g.os.trans h.os, g.tape.trans h.tape, g.output.trans h.output, Nat.le_trans h.size g.size, fun k hk k1 k2 => (g.block k (Nat.lt_of_lt_of_le hk h.size) k1 (fun e => by
    rcases hm k e with e' | e'
    · exact k2 e'
    · omega)).trans (h.block k hk k1 k2)⟩
theorem Moved.trans {w w1 : World} {vi vj vk : Value} (h : Moved w vi vj) (g : Moved w1 vj vk) (hs : w.heap.size ≤ w1.heap.size) : Moved w vi vk := by
  intro k hk
  rcases g k hk with e | e
  · exact h k e
  · exact .inr (by omega)
/-- where it leaves for -/
def toV (lv : Int) : Int := if lv < 0 then 0 else lv
section
variable {w : World} {base mb stb sb bp bw bh N : Nat} {X : Nat → Int} {p : List Pq} {vi : Value} {m : Nat → Int} {wt ht : Int → Bool}
theorem ef_cells {w : World} {base : Nat} {v : Value} {l : List Ef} (h : w.ownsRow base 160 7 v l.length (efL l)) : ∃ ao cap, v = .slice ao l.length cap ∧ (0 < l.length → ∃ g, ao = some ⟨g, 0, none⟩ ∧ v.ownBlock = some g ∧ g < w.heap.size ∧ ∀ (i : Nat) (r : Ef), l[i]? = some r → ∀ j u, (efA r).toList[j]? = some u → w.cell? ⟨g, i * 7 + j, none⟩ = some u) := by
  obtain ⟨h1, h2⟩ := h
  rcases h2 with ⟨hv, hn⟩ | ⟨g, cap, cur, hv, hb, hg, r1, r2, r3, r4⟩
  · refine ⟨none, 0, by rw [hv, hn], fun hp => by omega⟩
  · refine ⟨_, cap, hv, fun _ => ⟨g, rfl, by rw [hv]; rfl, (Array.getElem?_eq_some_iff.1 hg).1, fun i r hi j u hj => ?_⟩⟩
    rw [cell_of_row _ _ _ _ _ _ hg]
    have hil : i < l.length := (List.getElem?_eq_some_iff.1 hi).1
    have hj7 : j < 7 := (List.getElem?_eq_some_iff.1 hj).1
    have : (cur.toList.take (l.length * 7))[i * 7 + j]? = some u := by rw [r4, efL_get l i r j hi hj7]; exact hj
    rw [List.getElem?_take, if_pos (by omega)] at this
    rw [← Array.getElem?_toList]; exact this
set_option maxRecDepth 100000 in
set_option maxHeartbeats 8000000 in
theorem hwrite_any (G : GAt w base mb stb sb X p vi) (mbd : ∀ i, 0 ≤ m i ∧ m i < 4294967296) {row : List Opx} (hp : p.length + row.length ≤ 1000) (many : Int) (hw : ∀ o ∈ row, o.ok ∧ opE o many = 0) (hnt : ∀ o ∈ row, (resZ wt X (vw m (pqs p)) o).trap = false) {b2 : Nat} {u : Value} (hO : w.ownsRow b2 160 7 u (efs wt X (vw m (pqs p)) row).length (efL (efs wt X (vw m (pqs p)) row))) (hd : ∀ k, u.ownBlock = some k → k ≠ mb ∧ vi.ownBlock ≠ some k) (hwt : ∀ q ∈ pqs p, wt (q.a / 256) = false) :
    Calls Tryz.prog 83 #[.pointer (some ⟨mb, 0, none⟩), u] w fun e w' => e = .returned (.tuple #[.int .u32 (toV (rowZ wt X (vw m (pqs p)) row).lv), .bool (decide (0 ≤ (rowZ wt X (vw m (pqs p)) row).lv))]) ∧ ∃ p' vi', vw m (pqs p') = (rowZ wt X (vw m (pqs p)) row).m ∧ p'.length ≤ p.length + row.length ∧ (∀ q ∈ pqs p', wt (q.a / 256) = false) ∧ GAt w' base mb stb sb (rowZ wt X (vw m (pqs p)) row).x p' vi' ∧ Moved w vi vi' ∧ Kx w w' mb vi := by
  have hMb := vw_bd mbd (pqs p) (pq_ok p)
  have hXb : ∀ i, i < 64 → 0 ≤ X i ∧ X i < 4294967296 := fun i _ => G.xb i
  obtain ⟨M, hM⟩ : ∃ M, vw m (pqs p) = M := ⟨_, rfl⟩
  have HM0 : Hid (vw m (pqs p) = M) := hM
  rw [hM] at hMb hnt hO ⊢
  have HEO : Hid (∀ o ∈ row, EfOk wt o (resZ wt X M o) (efO o (resZ wt X M o))) := fun o ho => efOk (hw o ho).2 (hw o ho).1 hXb hMb (hnt o ho)
  have HAB : Hid (∀ o ∈ row, u32 (resZ wt X M o).a) := fun o ho => (resZ_bd (wt := wt) (hw o ho).1 (hw o ho).2 hXb hMb).2
  have hel : (efs wt X M row).length = row.length := by unfold efs; rw [List.length_map]
  obtain ⟨ao, cap, rfl, hcs⟩ := ef_cells hO
  have HCS : Hid (0 < (efs wt X M row).length → ∃ g, ao = some ⟨g, 0, none⟩ ∧ (Value.slice ao (efs wt X M row).length cap).ownBlock = some g ∧ g < w.heap.size ∧ ∀ (i : Nat) (r : Ef), (efs wt X M row)[i]? = some r → ∀ j u, (efA r).toList[j]? = some u → w.cell? ⟨g, i * 7 + j, none⟩ = some u) := hcs
  have HD : Hid (∀ k, (Value.slice ao (efs wt X M row).length cap).ownBlock = some k → k ≠ mb ∧ vi.ownBlock ≠ some k) := hd
  have HG : Hid (GAt w base mb stb sb X p vi) := G
  have HWT : Hid (∀ q ∈ pqs p, wt (q.a / 256) = false) := hwt
  have hmw := G.lt
  obtain ⟨Zf, hZf⟩ : ∃ Zf, rowZ wt X M row = Zf := ⟨_, rfl⟩
  have HZF : Hid (rowZ wt X M row = Zf) := hZf
  rw [hZf]
  have hpl : p.length ≤ 1000 := by omega
  rw [hel] at HCS HD ⊢
  clear hM hMb hXb hw hnt hO hcs hd G hwt hZf hel
  go_enter Tryz.func83, Tryz.ntmps83
  go_wp2
  go_loopw [4, 5, 12] (fun to lv i wr => ∃ (j : Nat) (Z : Mz) (pj : List Pq) (vj : Value), j ≤ row.length ∧ i = .int .i64 j ∧ Hid (rowZ wt X M (row.take j) = Z) ∧ to = .int .u32 (toV Z.lv) ∧ lv = .bool (decide (0 ≤ Z.lv)) ∧ Hid (vw m (pqs pj) = Z.m ∧ pj.length ≤ p.length + j ∧ (∀ q ∈ pqs pj, wt (q.a / 256) = false)) ∧ GAt wr base mb stb sb Z.x pj vj ∧ Moved w vi vj ∧ Kx w wr mb vi) (fun _ _ i _ => row.length - (intOf i).toNat)
  case atStart => exact ⟨0, ⟨X, M, -1⟩, p, vi, Nat.zero_le _, rfl, rfl, rfl, rfl, ⟨HM0.out, by omega, HWT.out⟩, HG.out, Moved.refl _ _, ⟨rfl, rfl, rfl, Nat.le_refl _, fun _ _ _ _ => rfl⟩⟩
  case round =>
    obtain ⟨j, Z, pj, vj, hj, rfl, HZ, rfl, rfl, HP, hG, hM, hK⟩ := hrel
    have HGJ : Hid (GAt wr base mb stb sb Z.x pj vj) := hG
    have HMJ : Hid (Moved w vi vj) := hM
    have HKJ : Hid (Kx w wr mb vi) := hK
    clear hG hM hK
    by_cases hlt : j < row.length
    · obtain ⟨o, ho⟩ : ∃ o, row[j]? = some o := ⟨_, List.getElem?_eq_getElem hlt⟩
      have hom := List.mem_of_getElem? ho
      obtain ⟨g, rfl, hob, hgl, hcell⟩ := HCS.out (by omega)
      obtain ⟨d1, d2⟩ := HD.out g hob
      have hblk : wr.heap[g]? = w.heap[g]? := HKJ.out.block g hgl d1 d2
      have hEo := HEO.out o hom
      have hAb := HAB.out o hom
      have hcl := hcell j (efO o (resZ wt X M o)) (by unfold efs; rw [List.getElem?_map, ho]; rfl)
      have HZN : Hid (rowZ wt X M (row.take (j + 1)) = appZ Z o (resZ wt X M o)) := by show _ = _; rw [take_snoc' ho, rowZ_snoc, HZ.out]
      generalize resZ wt X M o = ro at *
      generalize efO o ro = E at *
      have cc : ∀ (k : Nat) (u : Value), (efA E).toList[k]? = some u → wr.cell? ⟨g, j * 7 + k, none⟩ = some u := fun k u hk => (World.cell?_of_block (a := ⟨g, j * 7 + k, none⟩) hblk).trans (hcl k u hk)
      have y0 : wr.cell? ⟨g, j * 7, none⟩ = some (.int .i64 E.r) := cc 0 _ rfl
      have y1 := cc 1 _ rfl
      have y2 := cc 2 _ rfl
      have y3 := cc 3 _ rfl
      have y4 := cc 4 _ rfl
      have y5 := cc 5 _ rfl
      have y6 := cc 6 _ rfl
      have zg := World.block_lt_of_cell? _ _ y0
      have hlt' : (j : Int) < row.length := by omega
      have HEH : Hid (EfOk wt o ro E) := hEo
      have hdo := do_any (HGJ.out.opened (.cells #[.int .i64 E.r, .int .u32 E.v, .int .u32 E.a, .int .i64 E.s, .int .u32 E.sv, .bool E.lv, .int .u32 E.to] 160)) (by have := HP.out.2.1; omega) E hEo.r0 hEo.r1 hEo.v hEo.s
      have HKA : Hid (Kx wr (wr.alloc (.cells #[.int .i64 E.r, .int .u32 E.v, .int .u32 E.a, .int .i64 E.s, .int .u32 E.sv, .bool E.lv, .int .u32 E.to] 160)) mb vj) := Kx.alloc _ _ _ _
      unfold efA at hdo
      clear hcl hcell cc hblk hob ho hom hEo HCS HD
      go_upto_region 4 with fail
      have f0 : (wr.alloc (.cells #[.int .i64 E.r, .int .u32 E.v, .int .u32 E.a, .int .i64 E.s, .int .u32 E.sv, .bool E.lv, .int .u32 E.to] 160)).cell? ⟨wr.heap.size, 0, none⟩ = some (.int .i64 E.r) := by simp
      have f1 : (wr.alloc (.cells #[.int .i64 E.r, .int .u32 E.v, .int .u32 E.a, .int .i64 E.s, .int .u32 E.sv, .bool E.lv, .int .u32 E.to] 160)).cell? ⟨wr.heap.size, 1, none⟩ = some (.int .u32 E.v) := by simp
      have f2 : (wr.alloc (.cells #[.int .i64 E.r, .int .u32 E.v, .int .u32 E.a, .int .i64 E.s, .int .u32 E.sv, .bool E.lv, .int .u32 E.to] 160)).cell? ⟨wr.heap.size, 2, none⟩ = some (.int .u32 E.a) := by simp
      have f3 : (wr.alloc (.cells #[.int .i64 E.r, .int .u32 E.v, .int .u32 E.a, .int .i64 E.s, .int .u32 E.sv, .bool E.lv, .int .u32 E.to] 160)).cell? ⟨wr.heap.size, 3, none⟩ = some (.int .i64 E.s) := by simp
      have f4 : (wr.alloc (.cells #[.int .i64 E.r, .int .u32 E.v, .int .u32 E.a, .int .i64 E.s, .int .u32 E.sv, .bool E.lv, .int .u32 E.to] 160)).cell? ⟨wr.heap.size, 4, none⟩ = some (.int .u32 E.sv) := by simp
      have f5 : (wr.alloc (.cells #[.int .i64 E.r, .int .u32 E.v, .int .u32 E.a, .int .i64 E.s, .int .u32 E.sv, .bool E.lv, .int .u32 E.to] 160)).cell? ⟨wr.heap.size, 5, none⟩ = some (.bool E.lv) := by simp
      have f6 : (wr.alloc (.cells #[.int .i64 E.r, .int .u32 E.v, .int .u32 E.a, .int .i64 E.s, .int .u32 E.sv, .bool E.lv, .int .u32 E.to] 160)).cell? ⟨wr.heap.size, 6, none⟩ = some (.int .u32 E.to) := by simp
      have hszA : wr.heap.size ≤ (wr.alloc (.cells #[.int .i64 E.r, .int .u32 E.v, .int .u32 E.a, .int .i64 E.s, .int .u32 E.sv, .bool E.lv, .int .u32 E.to] 160)).heap.size := by simp
      generalize wr.alloc (.cells #[.int .i64 E.r, .int .u32 E.v, .int .u32 E.a, .int .i64 E.s, .int .u32 E.sv, .bool E.lv, .int .u32 E.to] 160) = A at *
      clear y0 y1 y2 y3 y4 y5 y6 zg
      go_wp2_with fail
      refine hdo.mono ?_
      rintro e w2 ⟨rfl, p2, v2, hpq, hpl2, hG2, hM2, hK2⟩
      have hKA2 : Kx wr w2 mb vj := HKA.out.trans hK2
      have HG2 : Hid (GAt w2 base mb stb sb (appZ Z o ro).x p2 v2) := by
        have := HEH.out.x Z.x Z.m Z.lv
        rw [← this]; exact hG2
      have HM2 : Hid (Moved w vi v2) := HMJ.out.trans (w1 := A) hM2 (by have := HKJ.out.size; omega)
      have HK2 : Hid (Kx w w2 mb vi) := HKJ.out.transM HMJ.out hKA2
      have HP2 : Hid (vw m (pqs p2) = (appZ Z o ro).m ∧ p2.length ≤ p.length + (j + 1) ∧ (∀ q ∈ pqs p2, wt (q.a / 256) = false)) := by
        obtain ⟨a1, a2, a3⟩ := HP.out
        refine ⟨?_, by omega, fun q hq => ?_⟩
        · rw [hpq, HEH.out.m m (pqs pj) Z.x Z.lv, a1]
        · rw [hpq] at hq
          unfold doP at hq
          split at hq
          · exact a3 q hq
          · rename_i hs
            rcases List.mem_append.1 hq with h | h
            · exact a3 q h
            · rw [List.mem_singleton.1 h]; exact HEH.out.w hs
      have HLV : Hid ((appZ Z o ro).lv = if ro.leave = true then ro.a else Z.lv) := rfl
      clear hdo hK2 hG2 hM2 hKA2 f0 f1 f2 f3 f4 f5 f6 hpq hpl2 HP HGJ HKJ HMJ HKA
      cases hlv : ro.leave with
      | true =>
        have e1 : E.lv = true := HEH.out.lv.trans hlv
        have e2 : E.to = ro.a := HEH.out.to hlv
        have HL2 : Hid ((appZ Z o ro).lv = ro.a) := by show _ = _; rw [HLV.out, hlv]; rfl
        rw [e1, e2]
        clear e1 e2 HLV
        go_wp2
        go_roundw
        case rel => exact ⟨j + 1, appZ Z o ro, p2, v2, by omega, by go_num, HZN.out, by rw [HL2.out]; unfold toV; rw [if_neg (by have := hAb.1; omega)], by rw [HL2.out, decide_eq_true hAb.1], HP2.out, HG2.out, HM2.out, HK2.out⟩
        case measure => simp [intOf]; omega
      | false =>
        have e1 : E.lv = false := HEH.out.lv.trans hlv
        have HL2 : Hid ((appZ Z o ro).lv = Z.lv) := by show _ = _; rw [HLV.out, hlv]; rfl
        rw [e1]
        clear e1 HLV
        go_wp2
        go_roundw
        case rel => exact ⟨j + 1, appZ Z o ro, p2, v2, by omega, by go_num, HZN.out, by rw [HL2.out], by rw [HL2.out], HP2.out, HG2.out, HM2.out, HK2.out⟩
        case measure => simp [intOf]; omega
    · obtain rfl : j = row.length := by omega
      obtain rfl : Zf = Z := by rw [← HZF.out, ← HZ.out, List.take_length]
      clear HCS HD
      go_wp2
      go_ret2
      obtain ⟨a1, a2, a3⟩ := HP.out
      first | exact ⟨rfl, pj, vj, a1, a2, a3, HGJ.out, HMJ.out, HKJ.out⟩ | exact ⟨rfl, pj, a1, a2, a3, vj, HGJ.out, HMJ.out, HKJ.out⟩
end
end Go.Proofs.YtflagpkmebdckaaGreatDoor
/-
  A plan that is well: what its rows have; it does not run out of rows.
-/
namespace Go.Proofs.YtflagpkmebdckaaGreatDoor
open Go.RowKit Go.Maps
open Num
set_option linter.unusedVariables false
theorem rowsF_all (many : Int) : ∀ (rs : List (List Opx)) (n : Nat), (rowsF many n rs).1 = 0 → ∀ (k : Nat) (q : List Opx), rs[k]? = some q → rowE many (decide (k + 1 = rs.length)) q = 0
  | [], n, _, k, q, h => by simp at h
  | r :: rs, n, h, k, q, hq => by
    unfold rowsF at h
    by_cases hr : rowE many rs.isEmpty r ≠ 0
    · rw [if_pos hr] at h; exact absurd h hr
    · rw [if_neg hr] at h
      have hr : rowE many rs.isEmpty r = 0 := Decidable.not_not.1 hr
      cases k with
      | zero =>
        obtain rfl : r = q := by simpa using hq
        have e : rs.isEmpty = decide (0 + 1 = (r :: rs).length) := by cases rs <;> simp
        rw [← e]; exact hr
      | succ k =>
        have := rowsF_all many rs (n + 1) h k q (by simpa using hq)
        have e : decide (k + 1 + 1 = (r :: rs).length) = decide (k + 1 = rs.length) := by simp
        rw [e]; exact this
structure PlanOk (many : Int) (rs : List (List Opx)) : Prop where
  m0 : 1 ≤ many
  m1 : many ≤ 24
  len : rs.length ≤ 200
  ne : rs ≠ []
  row : ∀ r ∈ rs, r.length ≤ 4 ∧ ∀ o ∈ r, opE o many = 0
  last : ∀ r, rs.getLast? = some r → r.any outB = true
theorem planF_ok {many : Int} {rs : List (List Opx)} (h : planF many rs = (0, -1)) : PlanOk many rs := by
  unfold planF at h
  by_cases h1 : many < 1 ∨ 24 < many
  · rw [if_pos h1] at h; cases h
  rw [if_neg h1] at h
  by_cases h2 : 200 < rs.length
  · rw [if_pos h2] at h; cases h
  rw [if_neg h2] at h
  by_cases h3 : rs = []
  · rw [if_pos h3] at h; cases h
  rw [if_neg h3] at h
  by_cases h4 : (rowsF many 0 rs).1 ≠ 0
  · rw [if_pos h4] at h; rw [h] at h4; exact absurd rfl h4
  have h4 : (rowsF many 0 rs).1 = 0 := Decidable.not_not.1 h4
  have hall := rowsF_all many rs 0 h4
  have hrow : ∀ (last : Bool) (q : List Opx), rowE many last q = 0 → (¬ (q = [] ∨ 4 < q.length)) ∧ firE many q = 0 ∧ last = q.any outB := by
    intro last q hq
    unfold rowE at hq
    by_cases a1 : q = [] ∨ 4 < q.length
    · rw [if_pos a1] at hq; cases hq
    rw [if_neg a1] at hq
    by_cases a2 : firE many q ≠ 0
    · rw [if_pos a2] at hq; exact absurd hq a2
    rw [if_neg a2] at hq
    by_cases a3 : fitB q = false
    · rw [if_pos a3] at hq; cases hq
    rw [if_neg a3] at hq
    by_cases a4 : dupA [] q = true
    · rw [if_pos a4] at hq; cases hq
    rw [if_neg a4] at hq
    by_cases a5 : last ≠ q.any outB
    · rw [if_pos a5] at hq; cases hq
    exact ⟨a1, Decidable.not_not.1 a2, Decidable.not_not.1 a5⟩
  refine ⟨by omega, by omega, by omega, h3, fun r hr => ?_, fun r hr => ?_⟩
  · obtain ⟨k, hk, e⟩ := List.mem_iff_getElem.1 hr
    obtain ⟨a1, a2, _⟩ := hrow _ r (hall k r (by rw [List.getElem?_eq_getElem hk, e]))
    exact ⟨by have : ¬ 4 < r.length := fun h => a1 (.inr h); omega, firE_all many r a2⟩
  · rw [List.getLast?_eq_getElem?] at hr
    have hp : 0 < rs.length := List.length_pos_iff.2 h3
    obtain ⟨_, _, a3⟩ := hrow _ r (hall (rs.length - 1) r hr)
    rw [← a3]; simp; omega
theorem rowZ_mbd {wt : Int → Bool} {x m : Nat → Int} : ∀ (row : List Opx) (M : Mz), (∀ o ∈ row, (resZ wt x m o).trap = false) → (∀ i, 0 ≤ M.m i ∧ M.m i < 4294967296) → ∀ i, 0 ≤ (row.foldl (fun M o => appZ M o (resZ wt x m o)) M).m i ∧ (row.foldl (fun M o => appZ M o (resZ wt x m o)) M).m i < 4294967296
  | [], M, _, h => h
  | o :: row, M, ht, h => by
    refine rowZ_mbd row (appZ M o (resZ wt x m o)) (fun q hq => ht q (by simp [hq])) ?_
    show ∀ i, 0 ≤ (if o.k = 24 then upd M.m (resZ wt x m o).a o.d (resZ wt x m o).v else M.m) i ∧ (if o.k = 24 then upd M.m (resZ wt x m o).a o.d (resZ wt x m o).v else M.m) i < 4294967296
    by_cases hk : o.k = 24
    · rw [if_pos hk]
      obtain ⟨hc, _⟩ := resZ_store hk (ht o (by simp))
      obtain ⟨c1, c2, _⟩ := chk_ok hc
      exact upd_bd _ _ _ _ c1 c2 h
    · rw [if_neg hk]; exact h
theorem resZ_out {wt : Int → Bool} {x m : Nat → Int} {o : Opx} (h : outB o = true) : (resZ wt x m o).leave = true := by
  unfold outB at h
  simp only [decide_eq_true_eq] at h
  unfold resZ
  rw [if_neg (by omega), if_neg (by omega), if_neg (by omega), if_neg (by omega), if_neg (by omega)]
  rcases h with h | h
  · rw [if_pos h]
  · rw [if_neg (by omega), if_pos h]
theorem rowZ_out {wt : Int → Bool} {x m : Nat → Int} : ∀ (row : List Opx) (M : Mz), (∀ o ∈ row, u32 (resZ wt x m o).a) → (0 ≤ M.lv ∨ ∃ o ∈ row, (resZ wt x m o).leave = true) → 0 ≤ (row.foldl (fun M o => appZ M o (resZ wt x m o)) M).lv
  | [], M, _, h => by
    rcases h with h | ⟨o, ho, _⟩
    · exact h
    · cases ho
  | o :: row, M, hb, h => by
    refine rowZ_out row (appZ M o (resZ wt x m o)) (fun q hq => hb q (by simp [hq])) ?_
    have hlv : (appZ M o (resZ wt x m o)).lv = if (resZ wt x m o).leave = true then (resZ wt x m o).a else M.lv := rfl
    have ha := (hb o (by simp)).1
    by_cases hl : (resZ wt x m o).leave = true
    · left; rw [hlv, if_pos hl]; exact ha
    · rw [hlv, if_neg hl]
      rcases h with h | ⟨q, hq, h⟩
      · exact .inl h
      · rcases List.mem_cons.1 hq with rfl | hq
        · exact absurd h hl
        · exact .inr ⟨q, hq, h⟩
theorem trapZ_all {wt : Int → Bool} {x m : Nat → Int} {row : List Opx} (h : trapZ wt x m row = none) : ∀ o ∈ row, (resZ wt x m o).trap = false := by
  intro o ho
  unfold trapZ at h
  rw [Option.map_eq_none_iff, List.find?_eq_none] at h
  have := h o ho
  simpa using this
theorem runZ_nofell {many : Int} (wt : Int → Bool) : ∀ (rs : List (List Opx)) (x m : Nat → Int), rs ≠ [] → (∀ r ∈ rs, ∀ o ∈ r, o.ok ∧ opE o many = 0) → (∀ r, rs.getLast? = some r → r.any outB = true) → (∀ i, i < 64 → 0 ≤ x i ∧ x i < 4294967296) → (∀ i, 0 ≤ m i ∧ m i < 4294967296) → runZ wt rs x m ≠ .fell
  | [], x, m, h, _, _, _, _ => absurd rfl h
  | r :: rs, x, m, _, hw, hl, hx, hm => by
    rw [runZ_cons]
    cases ht : trapZ wt x m r with
    | some t => simp
    | none =>
      have hnt := trapZ_all ht
      simp only
      split
      · rename_i hlv
        cases rs with
        | nil =>
          exfalso
          have ho := hl r rfl
          obtain ⟨o, hor, hoo⟩ := List.any_eq_true.1 ho
          have := rowZ_out (wt := wt) (x := x) (m := m) r ⟨x, m, -1⟩ (fun q hq => (resZ_bd (wt := wt) (hw r (by simp) q hq).1 (hw r (by simp) q hq).2 hx hm).2) (.inr ⟨o, hor, resZ_out hoo⟩)
          unfold rowZ at hlv
          omega
        | cons r2 rs =>
          refine runZ_nofell wt (r2 :: rs) _ _ (by simp) (fun q hq => hw q (by simp [hq])) (fun q hq => hl q (by rw [List.getLast?_cons_cons]; exact hq)) ?_ ?_
          · exact rowZ_xbd hx hm r ⟨x, m, -1⟩ (fun q hq => hw r (by simp) q hq) hx
          · exact rowZ_mbd r ⟨x, m, -1⟩ hnt hm
      · simp
end Go.Proofs.YtflagpkmebdckaaGreatDoor
/-
  sameEnd.
-/
namespace Go.Proofs.YtflagpkmebdckaaGreatDoor
open Go.RowKit Go.Maps
open Num
set_option linter.unusedVariables false
theorem load_place {w : World} {b : Nat} {S : St} {v : Value} {wc : Int} (A : RowIs w b 50 45 (plV S v wc)) : (loadVar 50 ⟨b, 0, none⟩).run Tryz.prog w = .ok (.agg (plA S v wc)) w :=
  run_loadVar_mid w b 0 50 ((List.range 45).map (plV S v wc)) _ (fun j u hu => by
    have hj : j < 45 := by have := (List.getElem?_eq_some_iff.1 hu).1; simpa using this
    rw [Nat.zero_add, A.cell hj]
    rw [List.getElem?_map, List.getElem?_range hj] at hu
    exact hu) Tryz.underlying50 rfl (by show _ = some 45; kernel_rfl)
theorem wpList_loadT {ops : Array Oper} {Q : Exit → Act → World → Prop} {a : Act} {w : World} {rest : List Oper} {o : Oper} (t : TypeId) (x : Operand) (hop : o.op = .load t x) (sb : Nat) (v : Value) (hgd : Region.wanted o (yielded ops a.tmps) = true) (hx : a.eval x = .pointer (some ⟨sb, 0, none⟩)) (hl : (loadVar t ⟨sb, 0, none⟩).run Tryz.prog w = .ok v w)
    (h : wpList Tryz.prog ops Q rest (a.put o.dst v) w) : wpList Tryz.prog ops Q (o :: rest) a w :=
  wpList_step fun K hK => by
    rw [if_pos hgd]
    unfold Oper.wp
    rw [exec_loadT hop hx w hl, Oper.upon_value]
    exact hK _ _ h
/-- two ends that no one tells apart, where traps are alike wherever they are -/
def OzSame : Oz → Oz → Prop
  | .trap _, .trap _ => True
  | .leave M, .leave N => M.lv = N.lv ∧ (∀ i, i < 4096 → M.m i = N.m i) ∧ ∀ r : Nat, 1 ≤ r → r ≤ 33 → M.x r = N.x r
  | .fell, .fell => True
  | _, _ => False
def rgS (S : St) (j : Nat) : Int := if j < 32 then S.r j else if j = 32 then S.hi else S.lo
theorem rgS_bd {S : St} (ok : S.ok) : ∀ j, j < 34 → 0 ≤ rgS S j ∧ rgS S j < 4294967296 := by
  intro j hj
  unfold rgS
  split
  · exact ok.r j
  · split
    · exact ok.hi
    · exact ok.lo
/-- what is told of an end: whether it trapped, a state, words -/
theorem stF_same {f : Nat → Value} {M N : Mz} {many ct : Int} (h1 : M.lv = N.lv) (h2 : ∀ r : Nat, 1 ≤ r → r ≤ 33 → M.x r = N.x r) : ∀ j, j < 43 → stF f M many ct j = stF f N many ct j := by
  intro j hj
  unfold stF
  by_cases h : 1 ≤ j ∧ j < 34
  · rw [if_pos h, if_pos h, h2 j h.1 (by omega)]
  · rw [if_neg h, if_neg h, h1]
/-- a state behind a run, as a state -/
def lfS (S : St) (M : Mz) (many : Int) : St := { S with r := fun j => if 1 ≤ j then M.x j else S.r j, hi := M.x 32, lo := M.x 33, pc := M.lv, nx := lo (M.lv + 4), ct := S.ct + many }
theorem stF_st (S : St) (M : Mz) (many : Int) : ∀ j, j < 43 → stV (lfS S M many) j = stF (stV S) M many S.ct j := by
  intro j hj
  by_cases h0 : j = 0
  · subst h0; rfl
  · by_cases h1 : j < 34
    · have e : stF (stV S) M many S.ct j = .int .u32 (M.x j) := by unfold stF; rw [if_pos (by omega)]
      rw [e]
      unfold stV lfS
      by_cases h : j < 32
      · rw [if_pos h]; show Value.int .u32 (if 1 ≤ j then M.x j else S.r j) = _; rw [if_pos (by omega)]
      · rw [if_neg h]
        by_cases h2 : j = 32
        · rw [if_pos h2, h2]
        · rw [if_neg h2, if_pos (by omega)]; rw [show j = 33 by omega]
    · have hc : j = 34 ∨ j = 35 ∨ j = 36 ∨ j = 37 ∨ j = 38 ∨ j = 39 ∨ j = 40 ∨ j = 41 ∨ j = 42 := by omega
      rcases hc with rfl | rfl | rfl | rfl | rfl | rfl | rfl | rfl | rfl <;> rfl
/-- the end's own words: trap, a state, memory -/
def ozT : Oz → Bool
  | .trap _ => true
  | _ => false
def ozS (S : St) (many : Int) : Oz → St
  | .leave M => lfS S M many
  | _ => S
def ozM (m : Nat → Int) : Oz → (Nat → Int)
  | .leave M => M.m
  | _ => m
theorem OzSame.told {S : St} {many : Int} {m : Nat → Int} {a b : Oz} (h : OzSame a b) : ozT a = ozT b ∧ stA (ozS S many a) = stA (ozS S many b) ∧ ∀ i, i < 4096 → ozM m a i = ozM m b i := by
  cases a <;> cases b <;> simp only [OzSame] at h
  · exact ⟨rfl, rfl, fun _ _ => rfl⟩
  · obtain ⟨h1, h2, h3⟩ := h
    refine ⟨rfl, stA_congr (fun j hj => ?_), h2⟩
    show stV (lfS S _ many) j = stV (lfS S _ many) j
    rw [stF_st _ _ _ j hj, stF_st _ _ _ j hj]
    exact stF_same h1 h3 j hj
  · exact ⟨rfl, rfl, fun _ _ => rfl⟩
end Go.Proofs.YtflagpkmebdckaaGreatDoor
/-
  sameEnd, walked.
-/
namespace Go.Proofs.YtflagpkmebdckaaGreatDoor
open Go.RowKit Go.Maps
open Num
set_option linter.unusedVariables false
end Go.Proofs.YtflagpkmebdckaaGreatDoor
/-
  What OptEnds's walk wants of the pure side.
-/
namespace Go.Proofs.YtflagpkmebdckaaGreatDoor
open Go.RowKit Go.Maps
open Num
set_option linter.unusedVariables false
theorem OzAlike.same {a b : Oz} (h : OzAlike a b) : OzSame b a := by
  cases a <;> cases b <;> simp only [OzAlike, OzSame] at h ⊢
  obtain ⟨h1, h2, h3⟩ := h
  exact ⟨h1.symm, fun i _ => by rw [h2], fun r r1 r2 => (h3 r r1 r2).symm⟩
theorem ends_same {many lev : Int} {l : List Opx} (W : Well many l) (wt : Int → Bool) (r : Nat → Int) (m : Nat → Int) : OzSame (runZ wt (eachL l) (nwX r 34) m) (runZ wt (eachL (optL lev l)) (nwX r 34) m) :=
  (run_opt (lev := lev) W wt (nwX r 34) m (by unfold nwX; rw [if_neg (by omega)])).same
/-- a code's three cells -/
structure CBox (W : World) (b : Nat) (pc many : Int) (v : Value) : Prop where
  k0 : W.cell? ⟨b, 0, none⟩ = some (.int .u32 pc)
  k1 : W.cell? ⟨b, 1, none⟩ = some (.int .i64 many)
  k2 : W.cell? ⟨b, 2, none⟩ = some v
theorem CBox.lt {W : World} {b : Nat} {pc many : Int} {v : Value} (C : CBox W b pc many v) : b < W.heap.size := World.block_lt_of_cell? _ _ C.k0
theorem CBox.stays {W W' : World} {b : Nat} {pc many : Int} {v : Value} (C : CBox W b pc many v) (h : Below W.heap.size W W') : CBox W' b pc many v :=
  ⟨(h.cell (p := ⟨b, 0, none⟩) C.lt).trans C.k0, (h.cell (p := ⟨b, 1, none⟩) C.lt).trans C.k1, (h.cell (p := ⟨b, 2, none⟩) C.lt).trans C.k2⟩
theorem CBox.new (w : World) (pc many : Int) (v : Value) : CBox (w.alloc (.cells #[.int .u32 pc, .int .i64 many, v] 54)) w.heap.size pc many v := by
  refine ⟨by simp, by simp, by simp⟩
end Go.Proofs.YtflagpkmebdckaaGreatDoor
