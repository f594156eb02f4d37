/-
  Branches: their ops; the ops of any instruction.
-/
import Derived.Test.YtflagpkmebdckaaGreatDoorKIrChk2
import Derived.Test.YtflagpkmebdckaaGreatDoorKSerial
import Derived.Test.YtflagpkmebdckaaGreatDoorJNew
import Derived.Test.YtflagpkmebdckaaGreatDoorKPlPure
import Derived.Test.YtflagpkmebdckaaGreatDoorJDoc6
import Derived.Test.YtflagpkmebdckaaGreatDoorJBits
import Derived.Test.YtflagpkmebdckaaGreatDoorKRowsI
import Derived.Test.YtflagpkmebdckaaGreatDoorQLw5
import Derived.Test.YtflagpkmebdckaaGreatDoorKGEf
namespace Go.Proofs.YtflagpkmebdckaaGreatDoor.Low
open Go.RowKit Go.Maps
open Num
set_option linter.unusedVariables false
section
variable {w0 w : World} {lb : Nat} {pc many at_ : Int} {l : List Opx} {v : Value}
set_option maxRecDepth 100000 in
set_option maxHeartbeats 8000000 in
theorem branchL_any (F : LAt w0 w lb pc many at_ l v) (hn : l.length ≤ 900) (p0 : 0 ≤ pc) (p1 : pc < 4294967296) (a0 : 0 ≤ at_) (a1 : at_ ≤ 30) (k : Nat) (hk : k = 31 ∨ k = 32 ∨ k = 33 ∨ k = 34 ∨ k = 7 ∨ k = 8 ∨ k = 29 ∨ k = 30) (s t d m : Int) :
    Calls Tryz.prog 106 #[.pointer (some ⟨lb, 0, none⟩), .agg #[.int .i64 k, .int .i64 s, .int .i64 t, .int .i64 d, .int .u32 m]] w (LP w0 w lb pc many at_ (l ++ brL pc ⟨k, s, t, d, m⟩ at_) v) := by
  rcases hk with rfl | rfl | rfl | rfl | rfl | rfl | rfl | rfl
  · have B : Hid _ := LB.start F 31 s t d m
    clear F
    go_enter Tryz.func106, Tryz.ntmps106
    go_upto_region 1 with fail
    generalize hW : w.alloc (.cells #[.int .i64 31, .int .i64 s, .int .i64 t, .int .i64 d, .int .u32 m] 113) = W at B ⊢
    generalize hib : w.heap.size = ib at B ⊢
    clear hW hib
    have c0 := B.out.c0; have c1 := B.out.c1; have c2 := B.out.c2; have c3 := B.out.c3; have c4 := B.out.c4
    go_wp2_with fail
    refine (add_any B.out.f (by omega) ⟨#[120, 111, 114]⟩ 35 s t 0 0).mono ?_
    rintro e W1 ⟨rfl, v1, F1, L1⟩
    have B1 : Hid _ := B.out.add F1 L1
    clear c0 c1 c2 c3 c4 B F1 L1
    have B : Hid _ := B1.out
    clear B1
    have c0 := B.out.c0; have c1 := B.out.c1; have c2 := B.out.c2; have c3 := B.out.c3; have c4 := B.out.c4
    have k0 := B.out.f.c0
    have k3 := B.out.f.c3
    go_upto_region 11 with fail
    go_quiet (fail)
    have hb := bdN (Below.refl W1.heap.size W1) nq
    have B2 : Hid _ := B.out.pure hb
    clear c0 c1 c2 c3 c4 hb B k0 k3
    have B : Hid _ := B2.out
    clear B2
    generalize W1.drewN nq = Wd at *
    have c0 := B.out.c0; have c1 := B.out.c1; have c2 := B.out.c2; have c3 := B.out.c3; have c4 := B.out.c4
    go_wp2
    go_end0
    have := B.out.done
    exact this
  · have B : Hid _ := LB.start F 32 s t d m
    clear F
    go_enter Tryz.func106, Tryz.ntmps106
    go_upto_region 1 with fail
    generalize hW : w.alloc (.cells #[.int .i64 32, .int .i64 s, .int .i64 t, .int .i64 d, .int .u32 m] 113) = W at B ⊢
    generalize hib : w.heap.size = ib at B ⊢
    clear hW hib
    have c0 := B.out.c0; have c1 := B.out.c1; have c2 := B.out.c2; have c3 := B.out.c3; have c4 := B.out.c4
    go_wp2_with fail
    refine (add_any B.out.f (by omega) ⟨#[120, 111, 114]⟩ 35 s t 0 0).mono ?_
    rintro e W1 ⟨rfl, v1, F1, L1⟩
    have B1 : Hid _ := B.out.add F1 L1
    clear c0 c1 c2 c3 c4 B F1 L1
    have B : Hid _ := B1.out
    clear B1
    have c0 := B.out.c0; have c1 := B.out.c1; have c2 := B.out.c2; have c3 := B.out.c3; have c4 := B.out.c4
    have k0 := B.out.f.c0
    have k3 := B.out.f.c3
    go_upto_region 11 with fail
    go_quiet (fail)
    have hb := bdN (Below.refl W1.heap.size W1) nq
    have B2 : Hid _ := B.out.pure hb
    clear c0 c1 c2 c3 c4 hb B k0 k3
    have B : Hid _ := B2.out
    clear B2
    generalize W1.drewN nq = Wd at *
    have c0 := B.out.c0; have c1 := B.out.c1; have c2 := B.out.c2; have c3 := B.out.c3; have c4 := B.out.c4
    go_wp2
    go_end0
    have := B.out.done
    exact this
  · have B : Hid _ := LB.start F 33 s t d m
    clear F
    go_enter Tryz.func106, Tryz.ntmps106
    go_upto_region 1 with fail
    generalize hW : w.alloc (.cells #[.int .i64 33, .int .i64 s, .int .i64 t, .int .i64 d, .int .u32 m] 113) = W at B ⊢
    generalize hib : w.heap.size = ib at B ⊢
    clear hW hib
    have c0 := B.out.c0; have c1 := B.out.c1; have c2 := B.out.c2; have c3 := B.out.c3; have c4 := B.out.c4
    go_wp2_with fail
    refine (add_any B.out.f (by omega) ⟨#[115, 108, 116]⟩ 35 0 s 0 0).mono ?_
    rintro e W1 ⟨rfl, v1, F1, L1⟩
    have B1 : Hid _ := B.out.add F1 L1
    clear c0 c1 c2 c3 c4 B F1 L1
    have B : Hid _ := B1.out
    clear B1
    have c0 := B.out.c0; have c1 := B.out.c1; have c2 := B.out.c2; have c3 := B.out.c3; have c4 := B.out.c4
    have k0 := B.out.f.c0
    have k3 := B.out.f.c3
    go_upto_region 11 with fail
    go_quiet (fail)
    have hb := bdN (Below.refl W1.heap.size W1) nq
    have B2 : Hid _ := B.out.pure hb
    clear c0 c1 c2 c3 c4 hb B k0 k3
    have B : Hid _ := B2.out
    clear B2
    generalize W1.drewN nq = Wd at *
    have c0 := B.out.c0; have c1 := B.out.c1; have c2 := B.out.c2; have c3 := B.out.c3; have c4 := B.out.c4
    go_wp2
    go_end0
    have := B.out.done
    exact this
  · have B : Hid _ := LB.start F 34 s t d m
    clear F
    go_enter Tryz.func106, Tryz.ntmps106
    go_upto_region 1 with fail
    generalize hW : w.alloc (.cells #[.int .i64 34, .int .i64 s, .int .i64 t, .int .i64 d, .int .u32 m] 113) = W at B ⊢
    generalize hib : w.heap.size = ib at B ⊢
    clear hW hib
    have c0 := B.out.c0; have c1 := B.out.c1; have c2 := B.out.c2; have c3 := B.out.c3; have c4 := B.out.c4
    go_wp2_with fail
    refine (add_any B.out.f (by omega) ⟨#[115, 108, 116]⟩ 35 0 s 0 0).mono ?_
    rintro e W1 ⟨rfl, v1, F1, L1⟩
    have B1 : Hid _ := B.out.add F1 L1
    clear c0 c1 c2 c3 c4 B F1 L1
    have B : Hid _ := B1.out
    clear B1
    have c0 := B.out.c0; have c1 := B.out.c1; have c2 := B.out.c2; have c3 := B.out.c3; have c4 := B.out.c4
    have k0 := B.out.f.c0
    have k3 := B.out.f.c3
    go_upto_region 11 with fail
    go_quiet (fail)
    have hb := bdN (Below.refl W1.heap.size W1) nq
    have B2 : Hid _ := B.out.pure hb
    clear c0 c1 c2 c3 c4 hb B k0 k3
    have B : Hid _ := B2.out
    clear B2
    generalize W1.drewN nq = Wd at *
    have c0 := B.out.c0; have c1 := B.out.c1; have c2 := B.out.c2; have c3 := B.out.c3; have c4 := B.out.c4
    go_wp2
    go_end0
    have := B.out.done
    exact this
  · have B : Hid _ := LB.start F 7 s t d m
    clear F
    go_enter Tryz.func106, Tryz.ntmps106
    go_upto_region 1 with fail
    generalize hW : w.alloc (.cells #[.int .i64 7, .int .i64 s, .int .i64 t, .int .i64 d, .int .u32 m] 113) = W at B ⊢
    generalize hib : w.heap.size = ib at B ⊢
    clear hW hib
    have c0 := B.out.c0; have c1 := B.out.c1; have c2 := B.out.c2; have c3 := B.out.c3; have c4 := B.out.c4
    go_wp2_with fail
    refine (add_any B.out.f (by omega) ⟨#[99, 111, 112, 121]⟩ 35 s 0 0 0).mono ?_
    rintro e W1 ⟨rfl, v1, F1, L1⟩
    have B1 : Hid _ := B.out.add F1 L1
    clear c0 c1 c2 c3 c4 B F1 L1
    have B : Hid _ := B1.out
    clear B1
    have c0 := B.out.c0; have c1 := B.out.c1; have c2 := B.out.c2; have c3 := B.out.c3; have c4 := B.out.c4
    have k0 := B.out.f.c0
    have k3 := B.out.f.c3
    go_upto_region 11 with fail
    go_quiet (fail)
    have hb := bdN (Below.refl W1.heap.size W1) nq
    have B2 : Hid _ := B.out.pure hb
    clear c0 c1 c2 c3 c4 hb B k0 k3
    have B : Hid _ := B2.out
    clear B2
    generalize W1.drewN nq = Wd at *
    have c0 := B.out.c0; have c1 := B.out.c1; have c2 := B.out.c2; have c3 := B.out.c3; have c4 := B.out.c4
    go_wp2
    go_end0
    have := B.out.done
    exact this
  · have B : Hid _ := LB.start F 8 s t d m
    clear F
    go_enter Tryz.func106, Tryz.ntmps106
    go_upto_region 1 with fail
    generalize hW : w.alloc (.cells #[.int .i64 8, .int .i64 s, .int .i64 t, .int .i64 d, .int .u32 m] 113) = W at B ⊢
    generalize hib : w.heap.size = ib at B ⊢
    clear hW hib
    have c0 := B.out.c0; have c1 := B.out.c1; have c2 := B.out.c2; have c3 := B.out.c3; have c4 := B.out.c4
    go_wp2_with fail
    refine (add_any B.out.f (by omega) ⟨#[99, 111, 112, 121]⟩ 35 s 0 0 0).mono ?_
    rintro e W1 ⟨rfl, v1, F1, L1⟩
    have B1 : Hid _ := B.out.add F1 L1
    clear c0 c1 c2 c3 c4 B F1 L1
    have B : Hid _ := B1.out
    clear B1
    have c0 := B.out.c0; have c1 := B.out.c1; have c2 := B.out.c2; have c3 := B.out.c3; have c4 := B.out.c4
    have k0 := B.out.f.c0
    have k3 := B.out.f.c3
    go_upto_region 11 with fail
    go_quiet (fail)
    have hb := bdN (Below.refl W1.heap.size W1) nq
    have B2 : Hid _ := B.out.pure hb
    clear c0 c1 c2 c3 c4 hb B k0 k3
    have B : Hid _ := B2.out
    clear B2
    generalize W1.drewN nq = Wd at *
    have c0 := B.out.c0; have c1 := B.out.c1; have c2 := B.out.c2; have c3 := B.out.c3; have c4 := B.out.c4
    go_wp2_with fail
    refine (write_any B.out.f (by simp; omega) ⟨#[115, 101, 116]⟩ d 0 0 (linkI pc at_) 0).mono ?_
    rintro e W3 ⟨rfl, v3, F3, L3⟩
    have B3 : Hid _ := B.out.add F3 L3
    clear c0 c1 c2 c3 c4 B F3 L3
    have B : Hid _ := B3.out
    clear B3
    have c0 := B.out.c0; have c1 := B.out.c1; have c2 := B.out.c2; have c3 := B.out.c3; have c4 := B.out.c4
    clear c0 c1 c2 c3 c4
    go_wp2
    go_end0
    have := B.out.done
    rw [List.append_assoc] at this; exact this
  · have B : Hid _ := LB.start F 29 s t d m
    clear F
    go_enter Tryz.func106, Tryz.ntmps106
    go_upto_region 1 with fail
    generalize hW : w.alloc (.cells #[.int .i64 29, .int .i64 s, .int .i64 t, .int .i64 d, .int .u32 m] 113) = W at B ⊢
    generalize hib : w.heap.size = ib at B ⊢
    clear hW hib
    have c0 := B.out.c0; have c1 := B.out.c1; have c2 := B.out.c2; have c3 := B.out.c3; have c4 := B.out.c4
    have k0 := B.out.f.c0
    have k3 := B.out.f.c3
    go_upto_region 11 with fail
    go_quiet (fail)
    have hb := bdN (Below.refl W.heap.size W) nq
    have B2 : Hid _ := B.out.pure hb
    clear c0 c1 c2 c3 c4 hb B k0 k3
    have B : Hid _ := B2.out
    clear B2
    generalize W.drewN nq = Wd at *
    have c0 := B.out.c0; have c1 := B.out.c1; have c2 := B.out.c2; have c3 := B.out.c3; have c4 := B.out.c4
    go_wp2
    go_end0
    have := B.out.done
    show LP w0 w lb pc many at_ (l ++ []) v _ _; rw [List.append_nil]; exact this
  · have B : Hid _ := LB.start F 30 s t d m
    clear F
    go_enter Tryz.func106, Tryz.ntmps106
    go_upto_region 1 with fail
    generalize hW : w.alloc (.cells #[.int .i64 30, .int .i64 s, .int .i64 t, .int .i64 d, .int .u32 m] 113) = W at B ⊢
    generalize hib : w.heap.size = ib at B ⊢
    clear hW hib
    have c0 := B.out.c0; have c1 := B.out.c1; have c2 := B.out.c2; have c3 := B.out.c3; have c4 := B.out.c4
    have k0 := B.out.f.c0
    have k3 := B.out.f.c3
    go_upto_region 11 with fail
    go_quiet (fail)
    have hb := bdN (Below.refl W.heap.size W) nq
    have B2 : Hid _ := B.out.pure hb
    clear c0 c1 c2 c3 c4 hb B k0 k3
    have B : Hid _ := B2.out
    clear B2
    generalize W.drewN nq = Wd at *
    have c0 := B.out.c0; have c1 := B.out.c1; have c2 := B.out.c2; have c3 := B.out.c3; have c4 := B.out.c4
    go_wp2_with fail
    refine (write_any B.out.f (by omega) ⟨#[115, 101, 116]⟩ 31 0 0 (linkI pc at_) 0).mono ?_
    rintro e W3 ⟨rfl, v3, F3, L3⟩
    have B3 : Hid _ := B.out.add F3 L3
    clear c0 c1 c2 c3 c4 B F3 L3
    have B : Hid _ := B3.out
    clear B3
    have c0 := B.out.c0; have c1 := B.out.c1; have c2 := B.out.c2; have c3 := B.out.c3; have c4 := B.out.c4
    clear c0 c1 c2 c3 c4
    go_wp2
    go_end0
    have := B.out.done
    exact this
end
end Go.Proofs.YtflagpkmebdckaaGreatDoor.Low
/-
  A Guest's Do.
-/
namespace Go.Proofs.YtflagpkmebdckaaGreatDoor
open Go.RowKit Go.Maps
open Num
set_option linter.unusedVariables false
def doX (e : Ef) (X : Nat → Int) : Nat → Int := if e.r = 0 then X else setX X e.r e.v
def doP (e : Ef) (l : List Pend) : List Pend := if e.s = 0 then l else l ++ [⟨e.a, e.s, e.sv⟩]
section
variable {w : World} {base mb stb sb bp bw bh N : Nat} {X : Nat → Int} {p : List Pq} {vi : Value} {m : Nat → Int} {wt ht : Int → Bool}
set_option maxRecDepth 100000 in
set_option maxHeartbeats 4000000 in
theorem do_any (G : GAt w base mb stb sb X p vi) (hp : p.length ≤ 1000) (E : Ef) (r0 : 0 ≤ E.r) (r1 : E.r < 64) (hv : u32 E.v) (h : E.s = 0 ∨ E.r = 0 ∧ Pend.ok ⟨E.a, E.s, E.sv⟩) :
    Calls Tryz.prog 79 #[.pointer (some ⟨mb, 0, none⟩), .agg (efA E)] w fun e w' => e = .returned (.tuple #[.int .u32 E.to, .bool E.lv]) ∧ ∃ p' vi', pqs p' = doP E (pqs p) ∧ p'.length ≤ p.length + 1 ∧ GAt w' base mb stb sb (doX E X) p' vi' ∧ Moved w vi vi' ∧ Kx w w' mb vi := by
  obtain ⟨r, v, a, s, sv, lv, to⟩ := E
  simp only at *
  unfold efA doX doP
  simp only
  have GH : Hid (GAt (w.alloc (.cells #[.int .i64 r, .int .u32 v, .int .u32 a, .int .i64 s, .int .u32 sv, .bool lv, .int .u32 to] 160)) base mb stb sb X p vi) := G.opened _
  have hB0 : Hid (Kx w (w.alloc (.cells #[.int .i64 r, .int .u32 v, .int .u32 a, .int .i64 s, .int .u32 sv, .bool lv, .int .u32 to] 160)) mb vi) := Kx.alloc _ _ _ _
  have c0 : (w.alloc (.cells #[.int .i64 r, .int .u32 v, .int .u32 a, .int .i64 s, .int .u32 sv, .bool lv, .int .u32 to] 160)).cell? ⟨w.heap.size, 0, none⟩ = some (.int .i64 r) := by simp
  have c1 : (w.alloc (.cells #[.int .i64 r, .int .u32 v, .int .u32 a, .int .i64 s, .int .u32 sv, .bool lv, .int .u32 to] 160)).cell? ⟨w.heap.size, 1, none⟩ = some (.int .u32 v) := by simp
  have c2 : (w.alloc (.cells #[.int .i64 r, .int .u32 v, .int .u32 a, .int .i64 s, .int .u32 sv, .bool lv, .int .u32 to] 160)).cell? ⟨w.heap.size, 2, none⟩ = some (.int .u32 a) := by simp
  have c3 : (w.alloc (.cells #[.int .i64 r, .int .u32 v, .int .u32 a, .int .i64 s, .int .u32 sv, .bool lv, .int .u32 to] 160)).cell? ⟨w.heap.size, 3, none⟩ = some (.int .i64 s) := by simp
  have c4 : (w.alloc (.cells #[.int .i64 r, .int .u32 v, .int .u32 a, .int .i64 s, .int .u32 sv, .bool lv, .int .u32 to] 160)).cell? ⟨w.heap.size, 4, none⟩ = some (.int .u32 sv) := by simp
  have c5 : (w.alloc (.cells #[.int .i64 r, .int .u32 v, .int .u32 a, .int .i64 s, .int .u32 sv, .bool lv, .int .u32 to] 160)).cell? ⟨w.heap.size, 5, none⟩ = some (.bool lv) := by simp
  have c6 : (w.alloc (.cells #[.int .i64 r, .int .u32 v, .int .u32 a, .int .i64 s, .int .u32 sv, .bool lv, .int .u32 to] 160)).cell? ⟨w.heap.size, 6, none⟩ = some (.int .u32 to) := by simp
  have hmw := G.lt
  have hvb : ∀ k, vi.ownBlock = some k → k < w.heap.size := fun k hk => (G.blk k hk).1
  by_cases hr : r = 0
  · subst hr
    rw [if_pos rfl]
    by_cases hs : s = 0
    · subst hs
      rw [if_pos rfl]
      clear G h
      go_enter Tryz.func79, Tryz.ntmps79
      go_upto_region 5 with fail
      generalize w.alloc (.cells #[.int .i64 0, .int .u32 v, .int .u32 a, .int .i64 0, .int .u32 sv, .bool lv, .int .u32 to] 160) = V at *
      refine wp_region_phase 6 [(0, 0), (1, 1), (2, 0), (3, 1), (4, 0), (5, 0)] (fun W => W.cell? ⟨w.heap.size, 6, none⟩ = some (.int .u32 to) ∧ W.cell? ⟨w.heap.size, 5, none⟩ = some (.bool lv)) (by kernel_rfl) (by kernel_rfl) (fun _ _ _ d _ h => by cases d <;> exact h) ⟨c6, c5⟩ ?_
      repeat (first | (refine wpPlanZ_free (by rfl) (by rfl) (fun W => by (go_simp; try with_reducible rfl)) (fun K hK => ?_); go_simp; refine hK _ ?_; clear hK K) | (refine wpPlanZ_quiet (by rfl) (by rfl) (fun W hW => by (obtain ⟨z0, z1⟩ := hW; go_simp; try with_reducible rfl)) (fun K hK => ?_); go_simp; refine hK _ ?_; clear hK K))
      refine wpPlanZ_nil ?_
      go_wp2
      go_ret2
      exact ⟨rfl, p, vi, rfl, by omega, GH.out.drew, Moved.refl _ _, hB0.out.drew⟩
    · rw [if_neg hs]
      have hq : Pend.ok ⟨a, s, sv⟩ := (h.resolve_left hs).2
      have hsb : (s != 0) = true := by simp [hs]
      clear G h
      go_enter Tryz.func79, Tryz.ntmps79
      go_upto_region 4 with fail
      generalize w.alloc (.cells #[.int .i64 0, .int .u32 v, .int .u32 a, .int .i64 s, .int .u32 sv, .bool lv, .int .u32 to] 160) = V at *
      refine wp_region_phase 6 [(0, 0), (1, 0), (2, 0), (3, 0), (4, 1), (5, 2)] (fun W => W.cell? ⟨w.heap.size, 2, none⟩ = some (.int .u32 a) ∧ W.cell? ⟨w.heap.size, 3, none⟩ = some (.int .i64 s) ∧ W.cell? ⟨w.heap.size, 4, none⟩ = some (.int .u32 sv)) (by kernel_rfl) (by kernel_rfl) (fun _ _ _ d _ h => by cases d <;> exact h) ⟨c2, c3, c4⟩ ?_
      repeat (first | (refine wpPlanZ_free (by rfl) (by rfl) (fun W => by (go_simp; try with_reducible rfl)) (fun K hK => ?_); go_simp; refine hK _ ?_; clear hK K) | (refine wpPlanZ_quiet (by rfl) (by rfl) (fun W hW => by (obtain ⟨z0, z1, z2⟩ := hW; go_simp; try with_reducible rfl)) (fun K hK => ?_); go_simp; refine hK _ ?_; clear hK K))
      refine wpPlanZ_serial (by rfl) (by rfl) (fun K hK => ?_)
      go_simp
      refine (hold_any GH.out.drew hp ⟨⟨a, s, sv⟩, hq⟩).mono ?_
      rintro e w2 ⟨rfl, vi', G2, hm, hk⟩
      have hV : w.heap.size < V.drew.heap.size := World.block_lt_of_cell? V _ c0
      have cc : ∀ (j : Nat) (u : Value), V.cell? ⟨w.heap.size, j, none⟩ = some u → w2.cell? ⟨w.heap.size, j, none⟩ = some u := fun j u hu => (World.cell?_of_block (a := ⟨w.heap.size, j, none⟩) (hk.block w.heap.size hV (by omega) (fun e => by have := hvb _ e; omega))).trans hu
      have d2 := cc 2 _ c2
      have d3 := cc 3 _ c3
      have d4 := cc 4 _ c4
      have d5 := cc 5 _ c5
      have d6 := cc 6 _ c6
      refine hK _ _ (fun _ => ⟨d2, d3, d4⟩) ?_
      have hV2 : w.heap.size ≤ V.heap.size := Nat.le_of_lt hV
      clear hK K cc c0 c1 c2 c3 c4 c5 c6
      have c5 := d5
      have c6 := d6
      have hzz := World.block_lt_of_cell? _ _ d5
      clear d2 d3 d4 d5 d6
      have HG : Hid (GAt w2 base mb stb sb X (p ++ [⟨⟨a, s, sv⟩, hq⟩]) vi') := G2
      have HM : Hid (Moved w vi vi') := fun k hk => by
        rcases hm k hk with e | e
        · exact .inl e
        · exact .inr (by show w.heap.size ≤ k; have : V.drew.heap.size ≤ k := e; omega)
      have HK : Hid (Kx w w2 mb vi) := hB0.out.drew.trans hk
      clear G2 hm hk hB0 GH
      refine wpPlanZ_nil ?_
      go_upto_region 5 with fail
      refine wp_region_phase 6 [(0, 0), (1, 1), (2, 0), (3, 1), (4, 0), (5, 0)] (fun W => W.cell? ⟨w.heap.size, 6, none⟩ = some (.int .u32 to) ∧ W.cell? ⟨w.heap.size, 5, none⟩ = some (.bool lv)) (by kernel_rfl) (by kernel_rfl) (fun _ _ _ d _ h => by cases d <;> exact h) ⟨c6, c5⟩ ?_
      repeat (first | (refine wpPlanZ_free (by rfl) (by rfl) (fun W => by (go_simp; try with_reducible rfl)) (fun K hK => ?_); go_simp; refine hK _ ?_; clear hK K) | (refine wpPlanZ_quiet (by rfl) (by rfl) (fun W hW => by (obtain ⟨z0, z1⟩ := hW; go_simp; try with_reducible rfl)) (fun K hK => ?_); go_simp; refine hK _ ?_; clear hK K))
      refine wpPlanZ_nil ?_
      go_wp2
      go_ret2
      have hpq : pqs (p ++ [⟨⟨a, s, sv⟩, hq⟩]) = pqs p ++ [⟨a, s, sv⟩] := by unfold pqs; simp
      first | exact ⟨rfl, p ++ [⟨⟨a, s, sv⟩, hq⟩], vi', hpq, by simp, HG.out.drew, HM.out, HK.out.drew⟩ | exact ⟨rfl, p ++ [⟨⟨a, s, sv⟩, hq⟩], hpq, by simp, vi', HG.out.drew, HM.out, HK.out.drew⟩
  · rw [if_neg hr]
    have hs : s = 0 := by rcases h with h | h; exact h; exact absurd h.1 hr
    subst hs
    rw [if_pos rfl]
    have hrb : (r != 0) = true := by simp [hr]
    obtain ⟨d, rfl⟩ : ∃ n : Nat, r = n := ⟨r.toNat, by omega⟩
    have hd : d < 64 := by omega
    have hd' : (d : Int) < 64 := by omega
    have hne : w.heap.size ≠ mb := by omega
    clear G h
    go_enter Tryz.func79, Tryz.ntmps79
    go_upto_region 2 with fail
    generalize w.alloc (.cells #[.int .i64 d, .int .u32 v, .int .u32 a, .int .i64 0, .int .u32 sv, .bool lv, .int .u32 to] 160) = V at *
    have xd := GH.out.x d hd
    have fd := GH.out.fz (1 + d)
    refine wp_region_phase 8 [(0, 0), (1, 0), (2, 1), (3, 0), (4, 1), (5, 0), (6, 0), (7, 0), (8, 2)] (fun W => W.cell? ⟨w.heap.size, 0, none⟩ = some (.int .i64 d) ∧ W.cell? ⟨w.heap.size, 1, none⟩ = some (.int .u32 v)) (by kernel_rfl) (by kernel_rfl) (fun _ _ _ d _ h => by cases d <;> exact h) ⟨c0, c1⟩ ?_
    repeat (first | (refine wpPlanZ_free (by rfl) (by rfl) (fun W => by (go_simp; try with_reducible rfl)) (fun K hK => ?_); go_simp; refine hK _ ?_; clear hK K) | (refine wpPlanZ_quiet (by rfl) (by rfl) (fun W hW => by (obtain ⟨z0, z1⟩ := hW; go_simp; try with_reducible rfl)) (fun K hK => ?_); go_simp; refine hK _ ?_; clear hK K))
    refine wpPlanZ_serial (by rfl) (by rfl) (fun K hK => ?_)
    go_simp
    refine hK _ _ (fun h => absurd h (by decide)) ?_
    clear hK K
    refine wpPlanZ_nil ?_
    have cc : ∀ (j : Nat) (u : Value), V.cell? ⟨w.heap.size, j, none⟩ = some u → (V.setCell ⟨mb, 1 + d, none⟩ (.int .u32 v)).drew.cell? ⟨w.heap.size, j, none⟩ = some u := fun j u hu => (cell_drewG _ _).trans ((World.cell?_of_block (a := ⟨w.heap.size, j, none⟩) (Below.heap_setCell V ⟨mb, 1 + d, none⟩ _ w.heap.size hne)).trans hu)
    have d3 := cc 3 _ c3
    have d5 := cc 5 _ c5
    have d6 := cc 6 _ c6
    have HG : Hid (GAt (V.setCell ⟨mb, 1 + d, none⟩ (.int .u32 v)).drew base mb stb sb (setX X d v) p vi) := (GH.out.put d hd v hv).drew
    have HK : Hid (Kx w (V.setCell ⟨mb, 1 + d, none⟩ (.int .u32 v)).drew mb vi) := (hB0.out.setCell (1 + d) _).drew
    generalize (V.setCell ⟨mb, 1 + d, none⟩ (.int .u32 v)).drew = U at *
    clear cc c0 c1 c2 c3 c4 c5 c6 xd fd GH hB0
    have c3 := d3
    have c5 := d5
    have c6 := d6
    have hzz := World.block_lt_of_cell? _ _ d5
    clear d3 d5 d6
    go_upto_region 5 with fail
    refine wp_region_phase 6 [(0, 0), (1, 1), (2, 0), (3, 1), (4, 0), (5, 0)] (fun W => W.cell? ⟨w.heap.size, 6, none⟩ = some (.int .u32 to) ∧ W.cell? ⟨w.heap.size, 5, none⟩ = some (.bool lv)) (by kernel_rfl) (by kernel_rfl) (fun _ _ _ d _ h => by cases d <;> exact h) ⟨c6, c5⟩ ?_
    repeat (first | (refine wpPlanZ_free (by rfl) (by rfl) (fun W => by (go_simp; try with_reducible rfl)) (fun K hK => ?_); go_simp; refine hK _ ?_; clear hK K) | (refine wpPlanZ_quiet (by rfl) (by rfl) (fun W hW => by (obtain ⟨z0, z1⟩ := hW; go_simp; try with_reducible rfl)) (fun K hK => ?_); go_simp; refine hK _ ?_; clear hK K))
    refine wpPlanZ_nil ?_
    go_wp2
    go_ret2
    first | exact ⟨rfl, p, vi, rfl, by omega, HG.out.drew, Moved.refl _ _, HK.out.drew⟩ | exact ⟨rfl, p, rfl, by omega, vi, HG.out.drew, Moved.refl _ _, HK.out.drew⟩
end
end Go.Proofs.YtflagpkmebdckaaGreatDoor
/-
  The document's RunOf: what it holds of the world on its way.
-/
namespace Go.Proofs.YtflagpkmebdckaaGreatDoor
open Go.RowKit Go.Maps
open Num
set_option linter.unusedVariables false
/-- a state that was left -/
def stF (f : Nat → Value) (M : Mz) (many ct : Int) (j : Nat) : Value :=
  if 1 ≤ j ∧ j < 34 then .int .u32 (M.x j) else if j = 34 then .int .u32 M.lv else if j = 35 then .int .u32 (lo (M.lv + 4)) else if j = 42 then .int .i64 (ct + many) else f j
theorem nwX_bd {r : Nat → Int} (h : ∀ j, j < 34 → 0 ≤ r j ∧ r j < 4294967296) : ∀ i, i < 64 → 0 ≤ nwX r 34 i ∧ nwX r 34 i < 4294967296 := by
  intro i hi
  unfold nwX
  split
  · exact h i (by omega)
  · omega
theorem rowZ_lv {wt : Int → Bool} {x m : Nat → Int} {many : Int} (hx : ∀ i, i < 64 → 0 ≤ x i ∧ x i < 4294967296) (mb : ∀ i, 0 ≤ m i ∧ m i < 4294967296) : ∀ (row : List Opx) (M : Mz), (∀ o ∈ row, o.ok ∧ opE o many = 0) → (M.lv = -1 ∨ u32 M.lv) → ((row.foldl (fun M o => appZ M o (resZ wt x m o)) M).lv = -1 ∨ u32 (row.foldl (fun M o => appZ M o (resZ wt x m o)) M).lv)
  | [], M, _, h => h
  | o :: row, M, hw, h => by
    refine rowZ_lv hx mb row _ (fun q hq => hw q (by simp [hq])) ?_
    show (if (resZ wt x m o).leave = true then (resZ wt x m o).a else M.lv) = -1 ∨ u32 (if (resZ wt x m o).leave = true then (resZ wt x m o).a else M.lv)
    split
    · exact .inr (resZ_bd (hw o (by simp)).1 (hw o (by simp)).2 hx mb).2
    · exact h
theorem rowZ_xbd {wt : Int → Bool} {x m : Nat → Int} {many : Int} (hx : ∀ i, i < 64 → 0 ≤ x i ∧ x i < 4294967296) (mb : ∀ i, 0 ≤ m i ∧ m i < 4294967296) : ∀ (row : List Opx) (M : Mz), (∀ o ∈ row, o.ok ∧ opE o many = 0) → (∀ i, i < 64 → 0 ≤ M.x i ∧ M.x i < 4294967296) → ∀ i, i < 64 → 0 ≤ (row.foldl (fun M o => appZ M o (resZ wt x m o)) M).x i ∧ (row.foldl (fun M o => appZ M o (resZ wt x m o)) M).x i < 4294967296
  | [], M, _, h => h
  | o :: row, M, hw, h => rowZ_xbd hx mb row _ (fun q hq => hw q (by simp [hq])) (appZ_bd h (resZ_bd (hw o (by simp)).1 (hw o (by simp)).2 hx mb).1)
theorem runZ_cons (wt : Int → Bool) (row : List Opx) (rows : List (List Opx)) (x m : Nat → Int) : runZ wt (row :: rows) x m = match trapZ wt x m row with
    | some t => .trap t
    | none => if (rowZ wt x m row).lv < 0 then runZ wt rows (rowZ wt x m row).x (rowZ wt x m row).m else .leave (rowZ wt x m row) := rfl
end Go.Proofs.YtflagpkmebdckaaGreatDoor
/-
  An effect as the document has it.
-/
namespace Go.Proofs.YtflagpkmebdckaaGreatDoor
open Go.RowKit Go.Maps
open Num
set_option linter.unusedVariables false
/-- what an op that does not trap does -/
structure EfOk (wt : Int → Bool) (o : Opx) (ro : Ro) (E : Ef) : Prop where
  r0 : 0 ≤ E.r
  r1 : E.r < 64
  v : u32 E.v
  s : E.s = 0 ∨ E.r = 0 ∧ Pend.ok ⟨E.a, E.s, E.sv⟩
  x : ∀ (Y l : Nat → Int) (lv : Int), doX E Y = (appZ ⟨Y, l, lv⟩ o ro).x
  m : ∀ (mm : Nat → Int) (L : List Pend) (Y : Nat → Int) (lv : Int), vw mm (doP E L) = (appZ ⟨Y, vw mm L, lv⟩ o ro).m
  w : E.s ≠ 0 → wt (E.a / 256) = false
  lv : E.lv = ro.leave
  to : ro.leave = true → E.to = ro.a
theorem wr_val {o : Opx} (h : 1 ≤ o.k ∧ o.k ≤ 20 ∨ o.k = 23) : wrX o = o.d := by unfold wrX rD; rw [if_pos (by rw [if_pos h])]
theorem wr_none {o : Opx} (h : o.k = 21 ∨ o.k = 22 ∨ 24 ≤ o.k) : wrX o = 0 := by
  unfold wrX rD
  rw [if_neg]
  rw [if_neg (by omega)]
  split <;> omega
theorem efOk {o : Opx} {many : Int} (hw : opE o many = 0) (ok : o.ok) {wt : Int → Bool} {X M : Nat → Int} (hX : ∀ i, i < 64 → 0 ≤ X i ∧ X i < 4294967296) (mb : ∀ i, 0 ≤ M i ∧ M i < 4294967296) (ht : (resZ wt X M o).trap = false) : EfOk wt o (resZ wt X M o) (efO o (resZ wt X M o)) := by
  obtain ⟨vbd, abd⟩ := resZ_bd (wt := wt) ok hw hX mb
  obtain ⟨k0, _, _, _, hd, _⟩ := opE_flds hw
  have k0 : o.k ≠ 0 := k0
  have hlt : o.k < 28 := kn_lt o.s
  have z : u32 0 := ⟨by omega, by omega⟩
  have hcs : (1 ≤ o.k ∧ o.k ≤ 20 ∨ o.k = 23) ∨ (o.k = 21 ∨ o.k = 22) ∨ o.k = 24 ∨ 25 ≤ o.k := by omega
  rcases hcs with hk | hk | hk | hk
  · have hE : efO o (resZ wt X M o) = ⟨o.d, (resZ wt X M o).v, 0, 0, 0, false, 0⟩ := by unfold efO; rw [if_neg (by omega), if_neg (by omega), if_neg (by omega)]
    have hdd := hd hk
    have hwr := wr_val hk
    have hlv : (resZ wt X M o).leave = false := by
      rcases hk with hk | hk
      · rw [resZ_val hk.2]
      · unfold resZ
        rw [if_neg (by omega), if_neg (by omega), if_pos hk]
        generalize (if o.b < 0 then -o.b else o.b) = n
        split <;> rfl
    generalize resZ wt X M o = ro at *
    rw [hE]
    refine ⟨by show 0 ≤ o.d; omega, by show o.d < 64; omega, vbd, .inl rfl, fun Y l lv => ?_, fun mm L Y lv => ?_, fun h => absurd rfl h, hlv.symm, fun h => by rw [hlv] at h; cases h⟩
    · show (if o.d = 0 then Y else setX Y o.d ro.v) = (if 0 < wrX o then setX Y (wrX o) ro.v else Y)
      rw [hwr, if_neg (by omega), if_pos (by omega)]
    · show vw mm (if (0 : Int) = 0 then L else _) = (if o.k = 24 then _ else vw mm L)
      rw [if_pos rfl, if_neg (by omega)]
  · have hE : efO o (resZ wt X M o) = ⟨0, 0, 0, 0, 0, false, 0⟩ := by unfold efO; rw [if_pos hk]
    have hwr := wr_none (o := o) (by omega)
    have hlv : (resZ wt X M o).leave = false := by
      unfold resZ
      rcases hk with hk | hk
      · rw [if_pos hk]
      · rw [if_neg (by omega), if_pos hk]
    generalize resZ wt X M o = ro at *
    rw [hE]
    refine ⟨by show (0 : Int) ≤ 0; omega, by show (0 : Int) < 64; omega, z, .inl rfl, fun Y l lv => ?_, fun mm L Y lv => ?_, fun h => absurd rfl h, hlv.symm, fun h => by rw [hlv] at h; cases h⟩
    · show (if (0 : Int) = 0 then Y else _) = (if 0 < wrX o then setX Y (wrX o) ro.v else Y)
      rw [hwr, if_pos rfl, if_neg (by omega)]
    · show vw mm (if (0 : Int) = 0 then L else _) = (if o.k = 24 then _ else vw mm L)
      rw [if_pos rfl, if_neg (by omega)]
  · have hE : efO o (resZ wt X M o) = ⟨0, 0, (resZ wt X M o).a, o.d, (resZ wt X M o).v, false, 0⟩ := by unfold efO; rw [if_neg (by omega), if_pos hk]
    have hwr := wr_none (o := o) (by omega)
    obtain ⟨hc, hwt⟩ := resZ_store hk ht
    have hlv : (resZ wt X M o).leave = false := by
      unfold resZ
      rw [if_neg (by omega), if_neg (by omega), if_neg (by omega), if_pos hk]
      split <;> rfl
    have hd0 : o.d ≠ 0 := by
      intro h
      have := (chk_ok hc).1
      omega
    generalize resZ wt X M o = ro at *
    rw [hE]
    refine ⟨by show (0 : Int) ≤ 0; omega, by show (0 : Int) < 64; omega, z, .inr ⟨rfl, ⟨hc, abd.1, vbd.1, vbd.2⟩⟩, fun Y l lv => ?_, fun mm L Y lv => ?_, fun _ => hwt, hlv.symm, fun h => by rw [hlv] at h; cases h⟩
    · show (if (0 : Int) = 0 then Y else _) = (if 0 < wrX o then setX Y (wrX o) ro.v else Y)
      rw [hwr, if_pos rfl, if_neg (by omega)]
    · show vw mm (if o.d = 0 then L else L ++ [⟨ro.a, o.d, ro.v⟩]) = (if o.k = 24 then upd (vw mm L) ro.a o.d ro.v else vw mm L)
      rw [if_neg hd0, if_pos hk, vw_snoc]; rfl
  · have hE : efO o (resZ wt X M o) = ⟨0, 0, 0, 0, 0, (resZ wt X M o).leave, (resZ wt X M o).a⟩ := by unfold efO; rw [if_neg (by omega), if_neg (by omega), if_pos hk]
    have hwr := wr_none (o := o) (by omega)
    generalize resZ wt X M o = ro at *
    rw [hE]
    refine ⟨by show (0 : Int) ≤ 0; omega, by show (0 : Int) < 64; omega, z, .inl rfl, fun Y l lv => ?_, fun mm L Y lv => ?_, fun h => absurd rfl h, rfl, fun h => rfl⟩
    · show (if (0 : Int) = 0 then Y else _) = (if 0 < wrX o then setX Y (wrX o) ro.v else Y)
      rw [hwr, if_pos rfl, if_neg (by omega)]
    · show vw mm (if (0 : Int) = 0 then L else _) = (if o.k = 24 then _ else vw mm L)
      rw [if_pos rfl, if_neg (by omega)]
end Go.Proofs.YtflagpkmebdckaaGreatDoor
