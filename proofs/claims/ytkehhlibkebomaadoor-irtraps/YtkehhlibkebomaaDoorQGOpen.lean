/-
  Package ir's gate: open: memory takes what waits.
-/
import Derived.Test.YtkehhlibkebomaaDoorKSerial
import Derived.Test.YtkehhlibkebomaaDoorQGGt
namespace Go.Proofs.YtkehhlibkebomaaDoor
open Go.RowKit Go.Maps
open Num
set_option linter.unusedVariables false
section
variable {w : World} {base mb stb sb bp bw bh N : Nat} {X : Nat → Int} {p : List Pq} {vi : Value} {m : Nat → Int} {wt ht : Int → Bool}
theorem Turned.refl (w : World) (b c : Nat) : Turned w w b c := ⟨rfl, rfl, rfl, Nat.le_refl _, fun _ _ _ _ => rfl⟩
theorem Turned.trans {w w1 w2 : World} {b c : Nat} (h : Turned w w1 b c) (g : Turned w1 w2 b c) : Turned w w2 b c :=
  ⟨g.os.trans h.os, g.tape.trans h.tape, g.output.trans h.output, Nat.le_trans h.size g.size, fun k hk n1 n2 => (g.block k (Nat.lt_of_lt_of_le hk h.size) n1 n2).trans (h.block k hk n1 n2)⟩
theorem turned_drew (w : World) (b c : Nat) : Turned w w.drew b c := ⟨rfl, rfl, rfl, Nat.le_refl _, fun _ _ _ _ => rfl⟩
theorem RamIs.drew (R : RamIs w sb bp bw bh N m wt ht) : RamIs w.drew sb bp bw bh N m wt ht := ⟨R.c0, R.c1, R.c2, R.pw, R.ph, R.wh, R.sp, R.sh, R.ps, R.ws, R.hs, R.mb⟩
theorem pqs_take_snoc {j : Nat} {q : Pq} (h : p[j]? = some q) : pqs (p.take (j + 1)) = pqs (p.take j) ++ [q.1] := by
  unfold pqs; rw [List.take_add_one, h]; simp
set_option maxRecDepth 100000 in
set_option maxHeartbeats 4000000 in
theorem gopen_any (R : RamIs w sb bp bw bh N m wt ht) (G : GAt w base mb stb sb X p vi) (hp : p.length ≤ 1000) (hN : N ≤ 1000000) (hbp : bp < base) (hbh : bh < base) (hwt : ∀ q ∈ pqs p, wt (q.a / 256) = false) :
    Calls Tryd.prog 33 #[.pointer (some ⟨mb, 65, none⟩)] w fun e w' => e = .returned (.tuple #[]) ∧ RamIs w' sb bp bw bh (N + 2 * p.length) (vw m (pqs p)) wt ht ∧ Turned w w' bp bh := by
  have g1 := G.g1
  have GH : Hid (GAt w base mb stb sb X p vi) := G
  have RH : Hid (RamIs w sb bp bw bh N m wt ht) := R
  have WH : Hid (∀ q ∈ pqs p, wt (q.a / 256) = false) := hwt
  obtain ⟨ao, cap, hvi⟩ : ∃ ao cap, vi = .slice ao p.length cap := by
    rcases G.row.2 with ⟨rfl, h⟩ | ⟨g, cap, cur, rfl, _⟩
    · exact ⟨none, 0, by rw [h]⟩
    · exact ⟨_, _, rfl⟩
  clear G R hwt
  rw [hvi] at g1
  go_enter Tryd.func33, Tryd.ntmps33
  go_wp2
  go_loopw [9] (fun i wr => ∃ j : Nat, j ≤ p.length ∧ i = .int .i64 j ∧ RamIs wr sb bp bw bh (N + 2 * j) (vw m (pqs (p.take j))) wt ht ∧ Turned w wr bp bh) (fun i _ => p.length - (intOf i).toNat)
  case atStart => exact ⟨0, Nat.zero_le _, rfl, RH.out, Turned.refl _ _ _⟩
  case round =>
    obtain ⟨j, hj, rfl, Rr, Tr⟩ := hrel
    by_cases hlt : j < p.length
    · obtain ⟨q, hq⟩ : ∃ q, p[j]? = some q := ⟨p[j], List.getElem?_eq_getElem hlt⟩
      have Gr := GH.out.turned Tr hbp hbh
      have hpd := Gr.pd
      have q0 := Gr.g0
      have hmr := Gr.lt
      rcases hpd with ⟨_, rfl⟩ | ⟨b, off, cap2, e, hb, hc⟩
      · simp at hlt
      rw [hvi] at e
      injection e with e1 e2 e3
      subst e1 e3
      obtain ⟨c0, c1, c2⟩ := hc j q hq
      have hqo := q.2
      have hqm : q.1 ∈ pqs p := List.mem_map.2 ⟨q, List.mem_of_getElem? hq, rfl⟩
      have hqw := WH.out _ hqm
      have HV : Hid (vw m (pqs (p.take (j + 1))) = q.1.put (vw m (pqs (p.take j)))) := by
        show _ = _; rw [pqs_take_snoc hq, vw_snoc]
      have RR : Hid (RamIs wr sb bp bw bh (N + 2 * j) (vw m (pqs (p.take j))) wt ht) := Rr
      have TT : Hid (Turned w wr bp bh) := Tr
      have hlt' : (j : Int) < p.length := by omega
      clear hc Rr Tr Gr hqm hq g1
      generalize vw m (pqs (p.take j)) = mj at *
      obtain ⟨⟨qa, qs, qv⟩, hqk⟩ := q
      simp only at c0 c1 c2 hqw
      have hqk : Hid (Pend.ok ⟨qa, qs, qv⟩) := hqk
      clear hqo
      go_upto_region 3 with fail
      have k0 : (wr.alloc (.cells #[.int .u32 qa, .int .i64 qs, .int .u32 qv] 60)).cell? ⟨mb, 65, none⟩ = some (.pointer (some ⟨sb, 0, none⟩)) := (World.grownBy_alloc wr _ none).cell q0 (by simp)
      have k1 : (wr.alloc (.cells #[.int .u32 qa, .int .i64 qs, .int .u32 qv] 60)).cell? ⟨wr.heap.size, 0, none⟩ = some (.int .u32 qa) := by simp
      have k2 : (wr.alloc (.cells #[.int .u32 qa, .int .i64 qs, .int .u32 qv] 60)).cell? ⟨wr.heap.size, 1, none⟩ = some (.int .i64 qs) := by simp
      have k3 : (wr.alloc (.cells #[.int .u32 qa, .int .i64 qs, .int .u32 qv] 60)).cell? ⟨wr.heap.size, 2, none⟩ = some (.int .u32 qv) := by simp
      have R1 : Hid (RamIs (wr.alloc (.cells #[.int .u32 qa, .int .i64 qs, .int .u32 qv] 60)).drew sb bp bw bh (N + 2 * j) mj wt ht) := (RR.out.grow (World.grownBy_alloc wr _ none)).drew
      have T1 : Hid (Turned w (wr.alloc (.cells #[.int .u32 qa, .int .i64 qs, .int .u32 qv] 60)).drew bp bh) := (TT.out.of_below ((Below.refl _ _).alloc (Nat.le_refl _) _)).trans (turned_drew _ _ _)
      generalize wr.alloc (.cells #[.int .u32 qa, .int .i64 qs, .int .u32 qv] 60) = V at *
      have hst := store_ok R1.out qa qs qv hqk.out.a0 (by have := (chk_ok hqk.out.c).2.2; simp only at this; omega) hqk.out.v0 hqk.out.v1 (by unfold maxLen; omega) hqk.out.c
      refine wp_region_phase 11 [(0, 0), (1, 0), (2, 0), (3, 1), (4, 0), (5, 1), (6, 0), (7, 1), (8, 0), (9, 1), (10, 2)] (fun W => W.cell? ⟨mb, 65, none⟩ = some (.pointer (some ⟨sb, 0, none⟩)) ∧ W.cell? ⟨wr.heap.size, 0, none⟩ = some (.int .u32 qa) ∧ W.cell? ⟨wr.heap.size, 1, none⟩ = some (.int .i64 qs) ∧ W.cell? ⟨wr.heap.size, 2, none⟩ = some (.int .u32 qv)) (by kernel_rfl) (by kernel_rfl) (fun _ _ _ d _ h => by cases d <;> exact h) ⟨by simpa using k0, by simpa using k1, by simpa using k2, by simpa using k3⟩ ?_
      repeat (first | (refine wpPlanZ_free (by rfl) (by rfl) (fun W => by (go_simp; try with_reducible rfl)) (fun K hK => ?_); go_simp; refine hK _ ?_; clear hK K) | (refine wpPlanZ_quiet (by rfl) (by rfl) (fun W hW => by (obtain ⟨z0, z1, z2, z3⟩ := hW; go_simp; try with_reducible rfl)) (fun K hK => ?_); go_simp; refine hK _ ?_; clear hK K))
      refine wpPlanZ_serial (by rfl) (by rfl) (fun K hK => ?_)
      go_simp
      refine hst.mono ?_
      rintro e w2 ⟨rfl, R2, t2⟩
      have nm1 : mb ≠ bp ∧ mb ≠ bh := by have := GH.out.lb; omega
      have nw1 : wr.heap.size ≠ bp ∧ wr.heap.size ≠ bh := by have := GH.out.bs; have := TT.out.size; omega
      refine hK _ _ (fun _ => ⟨t2.cell (A := ⟨mb, 65, none⟩) (by simpa using k0) nm1.1 nm1.2, t2.cell (A := ⟨wr.heap.size, 0, none⟩) (by simpa using k1) nw1.1 nw1.2, t2.cell (A := ⟨wr.heap.size, 1, none⟩) (by simpa using k2) nw1.1 nw1.2, t2.cell (A := ⟨wr.heap.size, 2, none⟩) (by simpa using k3) nw1.1 nw1.2⟩) ?_
      clear hK K
      refine wpPlanZ_nil ?_
      have R3 : Hid (RamIs w2 sb bp bw bh (N + 2 * (j + 1)) (Pend.put mj ⟨qa, qs, qv⟩) wt ht) := (R2.hits (fun x => by rw [hqw]; simp)).mono (by omega)
      have T3 : Hid (Turned w w2 bp bh) := T1.out.trans t2
      clear R2 t2 hst k0 k1 k2 k3 R1 T1
      go_wp2
      go_roundw
      case rel => exact ⟨j + 1, by omega, by go_num, by rw [HV.out]; exact R3.out, T3.out⟩
      case measure => simp [intOf]; omega
    · obtain rfl : j = p.length := by omega
      rw [List.take_length] at Rr
      go_wp2
      go_end0
      exact ⟨rfl, Rr, Tr⟩
end
end Go.Proofs.YtkehhlibkebomaaDoor
