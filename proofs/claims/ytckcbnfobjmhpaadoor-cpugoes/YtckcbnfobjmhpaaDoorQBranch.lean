/-
  A branch.
-/
import Derived.Test.YtckcbnfobjmhpaaDoorQCpuN
import Derived.Test.YtckcbnfobjmhpaaDoorQCpu3
namespace Go.Proofs.YtckcbnfobjmhpaaDoor
open Go.RowKit Go.Maps
open Num
set_option linter.unusedVariables false
section
variable {w : World} {pb sb bb : Nat} {S : St} {k s t d : Nat} {m : Int}
theorem St.ok_ct {S : St} (o : S.ok) {x y : Int} {z : Bool} (hx : u32 x) (hy : u32 y) : St.ok { S with pc := x, nx := y, sl := z } := ⟨o.r, o.hi, o.lo, hx, hy, o.st, o.ca, o.ep, o.bd, o.cm, o.c0, o.c1⟩
theorem branch_slot (c : Cp w pb sb bb S k s t d m) (hsl : S.sl = true) : Calls Tryd.prog 61 #[.pointer (some ⟨pb, 0, none⟩)] w fun e w' => e = .returned (.int .i64 10) ∧ w' = w := by
  have p0 := c.p.p0
  have q36 := c.a.told.2.2.2.2.1
  rw [hsl] at q36
  clear c
  go_enter Tryd.func61, Tryd.ntmps61
  go_wp2
  go_ret
  exact ⟨rfl, rfl⟩
set_option maxHeartbeats 8000000 in
theorem branch_plain (c : Cp w pb sb bb S k s t d m) (hsl : S.sl = false) (hk : k = 31 ∨ k = 32 ∨ k = 33 ∨ k = 34 ∨ k = 29 ∨ k = 7) : Calls Tryd.prog 61 #[.pointer (some ⟨pb, 0, none⟩)] w fun e w' => e = .returned (.int .i64 (-1)) ∧ StAt w' sb (branchP S k s t d m).2 ∧ Kept w w' (· = sb) := by
  have hk' : k = 31 ∨ k = 32 ∨ k = 33 ∨ k = 34 ∨ k = 29 ∨ k = 30 ∨ k = 7 ∨ k = 8 := by omega
  have ht := taken_any c hk'
  have hg := fun n => target_any (c.drewN n) hk'
  have CH : Hid (Cp w pb sb bb S k s t d m) := c
  have p0 := c.p.p0
  have p1 := c.p.p1
  have p4 := c.p.p4
  obtain ⟨_, _, q34, q35, q36, _, _, _, _, _, _⟩ := c.a.told
  rw [hsl] at q36
  obtain ⟨nx0, nx1⟩ := c.ok.nx
  obtain ⟨pc0, pc1⟩ := c.ok.pc
  clear c hk'
  have b1 := nk (k := k) (n := 30) (by omega)
  have b2 := nk (k := k) (n := 8) (by omega)
  go_enter Tryd.func61, Tryd.ntmps61
  go_wp2_with fail
  refine ht.mono ?_
  rintro e w1 ⟨rfl, n1, rfl⟩
  clear ht
  generalize hto : (if takenI S k s t = true then targI S k s m else Num.lo (S.nx + 4)) = to
  cases htk : takenI S k s t with
  | true =>
    rw [htk, if_pos rfl] at hto
    have hgo := hg n1
    rw [hto] at hgo
    go_wp2_with fail
    refine hgo.mono ?_
    rintro e wa ⟨rfl, hb2⟩
    clear hgo
    have CW : Cp wa pb sb bb S k s t d m := (CH.out.drewN n1).stays hb2
    have KW : Kept w wa (· = sb) := Kept.of_below _ ((below_drewN (Below.refl _ _) n1).trans hb2)
    clear p0 p1 p4 q34 q35 q36 hg
    clear hb2
    have p0 := CW.p.p0
    have p1 := CW.p.p1
    have p4 := CW.p.p4
    obtain ⟨_, _, q34, q35, q36, _, _, _, _, _, _⟩ := CW.a.told
    have CB := CW
    have KB := KW
    have f34 := CB.a.fz 34
    have f35 := CB.a.fz 35
    have f36 := CB.a.fz 36
    go_upto_region 11 with fail
    refine wp_region_phase 22 [(0, 0), (1, 0), (2, 0), (3, 1), (4, 0), (5, 0), (6, 0), (7, 1), (8, 0), (9, 0), (10, 0), (11, 1), (12, 0), (13, 0), (14, 0), (15, 1), (16, 0), (17, 0), (18, 1), (19, 0), (20, 0), (21, 0), (22, 2), (23, 0), (24, 0), (25, 2), (26, 0), (27, 0), (28, 2)] (fun W => W.cell? ⟨pb, 0, none⟩ = some (.pointer (some ⟨sb, 0, none⟩)) ∧ W.cell? ⟨sb, 35, none⟩ = some (.int .u32 S.nx)) (by kernel_rfl) (by kernel_rfl) (fun _ _ _ d _ h => by cases d <;> exact h) ⟨p0, q35⟩ ?_
    repeat (first | (refine wpPlanZ_free (by rfl) (by rfl) (fun W => by (go_simp; try with_reducible rfl)) (fun K hK => ?_); go_simp; refine hK _ ?_; clear hK K) | (refine wpPlanZ_quiet (by rfl) (by rfl) (fun W hW => by (obtain ⟨p0, q35⟩ := hW; go_simp; try with_reducible rfl)) (fun K hK => ?_); go_simp; refine hK _ ?_; clear hK K))
    refine wpPlanZ_serial (by rfl) (by rfl) (fun K hK => ?_)
    go_simp
    refine hK _ _ (fun h => absurd h (by decide)) ?_
    clear hK K
    repeat (first | (refine wpPlanZ_free (by rfl) (by rfl) (fun W => by (go_simp; try with_reducible rfl)) (fun K hK => ?_); go_simp; refine hK _ ?_; clear hK K) | (refine wpPlanZ_quiet (by rfl) (by rfl) (fun W hW => by (obtain ⟨p0, q35⟩ := hW; go_simp; try with_reducible rfl)) (fun K hK => ?_); go_simp; refine hK _ ?_; clear hK K))
    refine wpPlanZ_serial (by rfl) (by rfl) (fun K hK => ?_)
    go_simp
    refine hK _ _ (fun h => absurd h (by decide)) ?_
    clear hK K
    repeat (first | (refine wpPlanZ_free (by rfl) (by rfl) (fun W => by (go_simp; try with_reducible rfl)) (fun K hK => ?_); go_simp; refine hK _ ?_; clear hK K) | (refine wpPlanZ_quiet (by rfl) (by rfl) (fun W hW => by (obtain ⟨p0, q35⟩ := hW; go_simp; try with_reducible rfl)) (fun K hK => ?_); go_simp; refine hK _ ?_; clear hK K))
    refine wpPlanZ_serial (by rfl) (by rfl) (fun K hK => ?_)
    go_simp
    refine hK _ _ (fun h => absurd h (by decide)) ?_
    clear hK K
    refine wpPlanZ_nil ?_
    go_wp2
    go_ret
    refine ⟨rfl, ?_, (((KB.put 34 _).put 35 _).put 36 _).trans (Kept.drew _ _) (fun _ _ h => h)⟩
    have X : (branchP S k s t d m).2 = { (S) with pc := S.nx, nx := to, sl := true } := by rw [← hto]; unfold branchP; rw [if_neg (by simp [hsl])]; dsimp only; rw [if_neg (by omega), if_neg (by omega)]; first | rfl | (rw [htk]; rfl)
    rw [X]
    exact (((CB.a.putPc _).putNx to).putSl true).drew
  | false =>
    rw [htk, if_neg (by simp)] at hto
    unfold Num.lo at hto
    subst hto
    have CW : Cp (w.drewN n1) pb sb bb S k s t d m := CH.out.drewN _
    have KW : Kept w (w.drewN n1) (· = sb) := Kept.of_below _ (below_drewN (Below.refl _ _) _)
    clear p0 p1 p4 q34 q35 q36 hg
    generalize w.drewN n1 = wa at *
    have p0 := CW.p.p0
    have p1 := CW.p.p1
    have p4 := CW.p.p4
    obtain ⟨_, _, q34, q35, q36, _, _, _, _, _, _⟩ := CW.a.told
    have CB := CW
    have KB := KW
    have f34 := CB.a.fz 34
    have f35 := CB.a.fz 35
    have f36 := CB.a.fz 36
    go_upto_region 11 with fail
    refine wp_region_phase 22 [(0, 0), (1, 0), (2, 0), (3, 1), (4, 0), (5, 0), (6, 0), (7, 1), (8, 0), (9, 0), (10, 0), (11, 1), (12, 0), (13, 0), (14, 0), (15, 1), (16, 0), (17, 0), (18, 1), (19, 0), (20, 0), (21, 0), (22, 2), (23, 0), (24, 0), (25, 2), (26, 0), (27, 0), (28, 2)] (fun W => W.cell? ⟨pb, 0, none⟩ = some (.pointer (some ⟨sb, 0, none⟩)) ∧ W.cell? ⟨sb, 35, none⟩ = some (.int .u32 S.nx)) (by kernel_rfl) (by kernel_rfl) (fun _ _ _ d _ h => by cases d <;> exact h) ⟨p0, q35⟩ ?_
    repeat (first | (refine wpPlanZ_free (by rfl) (by rfl) (fun W => by (go_simp; try with_reducible rfl)) (fun K hK => ?_); go_simp; refine hK _ ?_; clear hK K) | (refine wpPlanZ_quiet (by rfl) (by rfl) (fun W hW => by (obtain ⟨p0, q35⟩ := hW; go_simp; try with_reducible rfl)) (fun K hK => ?_); go_simp; refine hK _ ?_; clear hK K))
    refine wpPlanZ_serial (by rfl) (by rfl) (fun K hK => ?_)
    go_simp
    refine hK _ _ (fun h => absurd h (by decide)) ?_
    clear hK K
    repeat (first | (refine wpPlanZ_free (by rfl) (by rfl) (fun W => by (go_simp; try with_reducible rfl)) (fun K hK => ?_); go_simp; refine hK _ ?_; clear hK K) | (refine wpPlanZ_quiet (by rfl) (by rfl) (fun W hW => by (obtain ⟨p0, q35⟩ := hW; go_simp; try with_reducible rfl)) (fun K hK => ?_); go_simp; refine hK _ ?_; clear hK K))
    refine wpPlanZ_serial (by rfl) (by rfl) (fun K hK => ?_)
    go_simp
    refine hK _ _ (fun h => absurd h (by decide)) ?_
    clear hK K
    repeat (first | (refine wpPlanZ_free (by rfl) (by rfl) (fun W => by (go_simp; try with_reducible rfl)) (fun K hK => ?_); go_simp; refine hK _ ?_; clear hK K) | (refine wpPlanZ_quiet (by rfl) (by rfl) (fun W hW => by (obtain ⟨p0, q35⟩ := hW; go_simp; try with_reducible rfl)) (fun K hK => ?_); go_simp; refine hK _ ?_; clear hK K))
    refine wpPlanZ_serial (by rfl) (by rfl) (fun K hK => ?_)
    go_simp
    refine hK _ _ (fun h => absurd h (by decide)) ?_
    clear hK K
    refine wpPlanZ_nil ?_
    go_wp2
    go_ret
    refine ⟨rfl, ?_, (((KB.put 34 _).put 35 _).put 36 _).trans (Kept.drew _ _) (fun _ _ h => h)⟩
    have X : (branchP S k s t d m).2 = { (S) with pc := S.nx, nx := (S.nx + 4) % 4294967296, sl := true } := by unfold branchP; rw [if_neg (by simp [hsl]), htk]; dsimp only; rw [if_neg (by omega), if_neg (by omega)]; first | rfl | (rw [htk]; rfl)
    rw [X]
    exact (((CB.a.putPc _).putNx _).putSl true).drew
set_option maxHeartbeats 8000000 in
theorem branch_jal (c : Cp w pb sb bb S k s t d m) (hsl : S.sl = false) (hk : k = 30) : Calls Tryd.prog 61 #[.pointer (some ⟨pb, 0, none⟩)] w fun e w' => e = .returned (.int .i64 (-1)) ∧ StAt w' sb (branchP S k s t d m).2 ∧ Kept w w' (· = sb) := by
  have hk' : k = 31 ∨ k = 32 ∨ k = 33 ∨ k = 34 ∨ k = 29 ∨ k = 30 ∨ k = 7 ∨ k = 8 := by omega
  have ht := taken_any c hk'
  have hg := fun n => target_any (c.drewN n) hk'
  have CH : Hid (Cp w pb sb bb S k s t d m) := c
  have p0 := c.p.p0
  have p1 := c.p.p1
  have p4 := c.p.p4
  obtain ⟨_, _, q34, q35, q36, _, _, _, _, _, _⟩ := c.a.told
  rw [hsl] at q36
  obtain ⟨nx0, nx1⟩ := c.ok.nx
  obtain ⟨pc0, pc1⟩ := c.ok.pc
  clear c hk'
  subst hk
  go_enter Tryd.func61, Tryd.ntmps61
  go_wp2_with fail
  refine ht.mono ?_
  rintro e w1 ⟨rfl, n1, rfl⟩
  clear ht
  generalize hto : (if takenI S 30 s t = true then targI S 30 s m else Num.lo (S.nx + 4)) = to
  cases htk : takenI S 30 s t with
  | true =>
    rw [htk, if_pos rfl] at hto
    have hgo := hg n1
    rw [hto] at hgo
    go_wp2_with fail
    refine hgo.mono ?_
    rintro e wa ⟨rfl, hb2⟩
    clear hgo
    have CW : Cp wa pb sb bb S 30 s t d m := (CH.out.drewN n1).stays hb2
    have KW : Kept w wa (· = sb) := Kept.of_below _ ((below_drewN (Below.refl _ _) n1).trans hb2)
    clear p0 p1 p4 q34 q35 q36 hg
    clear hb2
    have p0 := CW.p.p0
    have p1 := CW.p.p1
    have p4 := CW.p.p4
    obtain ⟨_, _, q34, q35, q36, _, _, _, _, _, _⟩ := CW.a.told
    have hset := set_any CW 31 (by omega) (Num.lo (S.pc + 8))
    unfold Num.lo at hset
    go_wp2_with fail
    refine hset.mono ?_
    rintro e wb ⟨rfl, AB, TB⟩
    have KB : Kept w wb (· = sb) := KW.trans TB (fun _ _ h => h)
    have CB := CW.turn TB AB (St.set_ok CW.ok 31 (lo_bd _))
    clear p0 p1 p4 q34 q35 q36 hset
    have p0 := CB.p.p0
    obtain ⟨_, _, q34, q35, q36, _, _, _, _, _, _⟩ := CB.a.told
    have f34 := CB.a.fz 34
    have f35 := CB.a.fz 35
    have f36 := CB.a.fz 36
    have enx : (S.set 31 (Num.lo (S.pc + 8))).nx = S.nx := by unfold St.set; split <;> rfl
    rw [show (Num.lo (S.pc + 8)) = (S.pc + 8) % 4294967296 from rfl] at enx
    rw [enx] at q35
    go_upto_region 11 with fail
    refine wp_region_phase 22 [(0, 0), (1, 0), (2, 0), (3, 1), (4, 0), (5, 0), (6, 0), (7, 1), (8, 0), (9, 0), (10, 0), (11, 1), (12, 0), (13, 0), (14, 0), (15, 1), (16, 0), (17, 0), (18, 1), (19, 0), (20, 0), (21, 0), (22, 2), (23, 0), (24, 0), (25, 2), (26, 0), (27, 0), (28, 2)] (fun W => W.cell? ⟨pb, 0, none⟩ = some (.pointer (some ⟨sb, 0, none⟩)) ∧ W.cell? ⟨sb, 35, none⟩ = some (.int .u32 S.nx)) (by kernel_rfl) (by kernel_rfl) (fun _ _ _ d _ h => by cases d <;> exact h) ⟨p0, q35⟩ ?_
    repeat (first | (refine wpPlanZ_free (by rfl) (by rfl) (fun W => by (go_simp; try with_reducible rfl)) (fun K hK => ?_); go_simp; refine hK _ ?_; clear hK K) | (refine wpPlanZ_quiet (by rfl) (by rfl) (fun W hW => by (obtain ⟨p0, q35⟩ := hW; go_simp; try with_reducible rfl)) (fun K hK => ?_); go_simp; refine hK _ ?_; clear hK K))
    refine wpPlanZ_serial (by rfl) (by rfl) (fun K hK => ?_)
    go_simp
    refine hK _ _ (fun h => absurd h (by decide)) ?_
    clear hK K
    repeat (first | (refine wpPlanZ_free (by rfl) (by rfl) (fun W => by (go_simp; try with_reducible rfl)) (fun K hK => ?_); go_simp; refine hK _ ?_; clear hK K) | (refine wpPlanZ_quiet (by rfl) (by rfl) (fun W hW => by (obtain ⟨p0, q35⟩ := hW; go_simp; try with_reducible rfl)) (fun K hK => ?_); go_simp; refine hK _ ?_; clear hK K))
    refine wpPlanZ_serial (by rfl) (by rfl) (fun K hK => ?_)
    go_simp
    refine hK _ _ (fun h => absurd h (by decide)) ?_
    clear hK K
    repeat (first | (refine wpPlanZ_free (by rfl) (by rfl) (fun W => by (go_simp; try with_reducible rfl)) (fun K hK => ?_); go_simp; refine hK _ ?_; clear hK K) | (refine wpPlanZ_quiet (by rfl) (by rfl) (fun W hW => by (obtain ⟨p0, q35⟩ := hW; go_simp; try with_reducible rfl)) (fun K hK => ?_); go_simp; refine hK _ ?_; clear hK K))
    refine wpPlanZ_serial (by rfl) (by rfl) (fun K hK => ?_)
    go_simp
    refine hK _ _ (fun h => absurd h (by decide)) ?_
    clear hK K
    refine wpPlanZ_nil ?_
    go_wp2
    go_ret
    refine ⟨rfl, ?_, (((KB.put 34 _).put 35 _).put 36 _).trans (Kept.drew _ _) (fun _ _ h => h)⟩
    have X : (branchP S 30 s t d m).2 = { (S.set 31 (Num.lo (S.pc + 8))) with pc := S.nx, nx := to, sl := true } := by rw [← hto]; unfold branchP; rw [if_neg (by simp [hsl])]; rfl
    rw [X]
    exact (((CB.a.putPc _).putNx to).putSl true).drew
  | false =>
    rw [htk, if_neg (by simp)] at hto
    unfold Num.lo at hto
    subst hto
    have CW : Cp (w.drewN n1) pb sb bb S 30 s t d m := CH.out.drewN _
    have KW : Kept w (w.drewN n1) (· = sb) := Kept.of_below _ (below_drewN (Below.refl _ _) _)
    clear p0 p1 p4 q34 q35 q36 hg
    generalize w.drewN n1 = wa at *
    have p0 := CW.p.p0
    have p1 := CW.p.p1
    have p4 := CW.p.p4
    obtain ⟨_, _, q34, q35, q36, _, _, _, _, _, _⟩ := CW.a.told
    have hset := set_any CW 31 (by omega) (Num.lo (S.pc + 8))
    unfold Num.lo at hset
    go_wp2_with fail
    refine hset.mono ?_
    rintro e wb ⟨rfl, AB, TB⟩
    have KB : Kept w wb (· = sb) := KW.trans TB (fun _ _ h => h)
    have CB := CW.turn TB AB (St.set_ok CW.ok 31 (lo_bd _))
    clear p0 p1 p4 q34 q35 q36 hset
    have p0 := CB.p.p0
    obtain ⟨_, _, q34, q35, q36, _, _, _, _, _, _⟩ := CB.a.told
    have f34 := CB.a.fz 34
    have f35 := CB.a.fz 35
    have f36 := CB.a.fz 36
    have enx : (S.set 31 (Num.lo (S.pc + 8))).nx = S.nx := by unfold St.set; split <;> rfl
    rw [show (Num.lo (S.pc + 8)) = (S.pc + 8) % 4294967296 from rfl] at enx
    rw [enx] at q35
    go_upto_region 11 with fail
    refine wp_region_phase 22 [(0, 0), (1, 0), (2, 0), (3, 1), (4, 0), (5, 0), (6, 0), (7, 1), (8, 0), (9, 0), (10, 0), (11, 1), (12, 0), (13, 0), (14, 0), (15, 1), (16, 0), (17, 0), (18, 1), (19, 0), (20, 0), (21, 0), (22, 2), (23, 0), (24, 0), (25, 2), (26, 0), (27, 0), (28, 2)] (fun W => W.cell? ⟨pb, 0, none⟩ = some (.pointer (some ⟨sb, 0, none⟩)) ∧ W.cell? ⟨sb, 35, none⟩ = some (.int .u32 S.nx)) (by kernel_rfl) (by kernel_rfl) (fun _ _ _ d _ h => by cases d <;> exact h) ⟨p0, q35⟩ ?_
    repeat (first | (refine wpPlanZ_free (by rfl) (by rfl) (fun W => by (go_simp; try with_reducible rfl)) (fun K hK => ?_); go_simp; refine hK _ ?_; clear hK K) | (refine wpPlanZ_quiet (by rfl) (by rfl) (fun W hW => by (obtain ⟨p0, q35⟩ := hW; go_simp; try with_reducible rfl)) (fun K hK => ?_); go_simp; refine hK _ ?_; clear hK K))
    refine wpPlanZ_serial (by rfl) (by rfl) (fun K hK => ?_)
    go_simp
    refine hK _ _ (fun h => absurd h (by decide)) ?_
    clear hK K
    repeat (first | (refine wpPlanZ_free (by rfl) (by rfl) (fun W => by (go_simp; try with_reducible rfl)) (fun K hK => ?_); go_simp; refine hK _ ?_; clear hK K) | (refine wpPlanZ_quiet (by rfl) (by rfl) (fun W hW => by (obtain ⟨p0, q35⟩ := hW; go_simp; try with_reducible rfl)) (fun K hK => ?_); go_simp; refine hK _ ?_; clear hK K))
    refine wpPlanZ_serial (by rfl) (by rfl) (fun K hK => ?_)
    go_simp
    refine hK _ _ (fun h => absurd h (by decide)) ?_
    clear hK K
    repeat (first | (refine wpPlanZ_free (by rfl) (by rfl) (fun W => by (go_simp; try with_reducible rfl)) (fun K hK => ?_); go_simp; refine hK _ ?_; clear hK K) | (refine wpPlanZ_quiet (by rfl) (by rfl) (fun W hW => by (obtain ⟨p0, q35⟩ := hW; go_simp; try with_reducible rfl)) (fun K hK => ?_); go_simp; refine hK _ ?_; clear hK K))
    refine wpPlanZ_serial (by rfl) (by rfl) (fun K hK => ?_)
    go_simp
    refine hK _ _ (fun h => absurd h (by decide)) ?_
    clear hK K
    refine wpPlanZ_nil ?_
    go_wp2
    go_ret
    refine ⟨rfl, ?_, (((KB.put 34 _).put 35 _).put 36 _).trans (Kept.drew _ _) (fun _ _ h => h)⟩
    have X : (branchP S 30 s t d m).2 = { (S.set 31 (Num.lo (S.pc + 8))) with pc := S.nx, nx := (S.nx + 4) % 4294967296, sl := true } := by unfold branchP; rw [if_neg (by simp [hsl]), htk]; rfl
    rw [X]
    exact (((CB.a.putPc _).putNx _).putSl true).drew
set_option maxHeartbeats 8000000 in
theorem branch_jalr (c : Cp w pb sb bb S k s t d m) (hsl : S.sl = false) (hk : k = 8) : Calls Tryd.prog 61 #[.pointer (some ⟨pb, 0, none⟩)] w fun e w' => e = .returned (.int .i64 (-1)) ∧ StAt w' sb (branchP S k s t d m).2 ∧ Kept w w' (· = sb) := by
  have hk' : k = 31 ∨ k = 32 ∨ k = 33 ∨ k = 34 ∨ k = 29 ∨ k = 30 ∨ k = 7 ∨ k = 8 := by omega
  have ht := taken_any c hk'
  have hg := fun n => target_any (c.drewN n) hk'
  have CH : Hid (Cp w pb sb bb S k s t d m) := c
  have p0 := c.p.p0
  have p1 := c.p.p1
  have p4 := c.p.p4
  obtain ⟨_, _, q34, q35, q36, _, _, _, _, _, _⟩ := c.a.told
  rw [hsl] at q36
  obtain ⟨nx0, nx1⟩ := c.ok.nx
  obtain ⟨pc0, pc1⟩ := c.ok.pc
  clear c hk'
  subst hk
  go_enter Tryd.func61, Tryd.ntmps61
  go_wp2_with fail
  refine ht.mono ?_
  rintro e w1 ⟨rfl, n1, rfl⟩
  clear ht
  generalize hto : (if takenI S 8 s t = true then targI S 8 s m else Num.lo (S.nx + 4)) = to
  cases htk : takenI S 8 s t with
  | true =>
    rw [htk, if_pos rfl] at hto
    have hgo := hg n1
    rw [hto] at hgo
    go_wp2_with fail
    refine hgo.mono ?_
    rintro e wa ⟨rfl, hb2⟩
    clear hgo
    have CW : Cp wa pb sb bb S 8 s t d m := (CH.out.drewN n1).stays hb2
    have KW : Kept w wa (· = sb) := Kept.of_below _ ((below_drewN (Below.refl _ _) n1).trans hb2)
    clear p0 p1 p4 q34 q35 q36 hg
    clear hb2
    have p0 := CW.p.p0
    have p1 := CW.p.p1
    have p4 := CW.p.p4
    obtain ⟨_, _, q34, q35, q36, _, _, _, _, _, _⟩ := CW.a.told
    have hset := set_any CW.drew d CW.hd (Num.lo (S.pc + 8))
    unfold Num.lo at hset
    go_upto_region 10 with fail
    refine wp_region_phase 15 [(0, 0), (1, 0), (2, 0), (3, 0), (4, 0), (5, 1), (6, 0), (7, 0), (8, 0), (9, 1), (10, 0), (11, 0), (12, 1), (13, 0), (14, 2)] (fun W => W.cell? ⟨pb, 0, none⟩ = some (.pointer (some ⟨sb, 0, none⟩)) ∧ W.cell? ⟨pb, 4, none⟩ = some (.int .i64 d) ∧ W.cell? ⟨sb, 34, none⟩ = some (.int .u32 S.pc)) (by kernel_rfl) (by kernel_rfl) (fun _ _ _ d _ h => by cases d <;> exact h) ⟨p0, p4, q34⟩ ?_
    repeat (first | (refine wpPlanZ_free (by rfl) (by rfl) (fun W => by (go_simp; try with_reducible rfl)) (fun K hK => ?_); go_simp; refine hK _ ?_; clear hK K) | (refine wpPlanZ_quiet (by rfl) (by rfl) (fun W hW => by (obtain ⟨p0, p4, q34⟩ := hW; go_simp; try with_reducible rfl)) (fun K hK => ?_); go_simp; refine hK _ ?_; clear hK K))
    refine wpPlanZ_serial (by rfl) (by rfl) (fun K hK => ?_)
    go_simp
    refine hset.mono ?_
    rintro e wb ⟨rfl, AB, TB⟩
    have KB : Kept w wb (· = sb) := (KW.trans (Kept.drew _ _) (fun _ _ h => h)).trans TB (fun _ _ h => h)
    have CB := CW.drew.turn TB AB (St.set_ok CW.ok d (lo_bd _))
    refine hK _ _ (fun _ => ⟨CB.p.p0, CB.p.p4, ?_⟩) ?_
    · have := CB.a.told.2.2.1; unfold St.set at this; split at this <;> exact this
    clear hK K
    refine wpPlanZ_nil ?_
    clear p0 p1 p4 q34 q35 q36 hset
    have p0 := CB.p.p0
    obtain ⟨_, _, q34, q35, q36, _, _, _, _, _, _⟩ := CB.a.told
    have f34 := CB.a.fz 34
    have f35 := CB.a.fz 35
    have f36 := CB.a.fz 36
    have enx : (S.set d (Num.lo (S.pc + 8))).nx = S.nx := by unfold St.set; split <;> rfl
    rw [show (Num.lo (S.pc + 8)) = (S.pc + 8) % 4294967296 from rfl] at enx
    rw [enx] at q35
    go_upto_region 11 with fail
    refine wp_region_phase 22 [(0, 0), (1, 0), (2, 0), (3, 1), (4, 0), (5, 0), (6, 0), (7, 1), (8, 0), (9, 0), (10, 0), (11, 1), (12, 0), (13, 0), (14, 0), (15, 1), (16, 0), (17, 0), (18, 1), (19, 0), (20, 0), (21, 0), (22, 2), (23, 0), (24, 0), (25, 2), (26, 0), (27, 0), (28, 2)] (fun W => W.cell? ⟨pb, 0, none⟩ = some (.pointer (some ⟨sb, 0, none⟩)) ∧ W.cell? ⟨sb, 35, none⟩ = some (.int .u32 S.nx)) (by kernel_rfl) (by kernel_rfl) (fun _ _ _ d _ h => by cases d <;> exact h) ⟨p0, q35⟩ ?_
    repeat (first | (refine wpPlanZ_free (by rfl) (by rfl) (fun W => by (go_simp; try with_reducible rfl)) (fun K hK => ?_); go_simp; refine hK _ ?_; clear hK K) | (refine wpPlanZ_quiet (by rfl) (by rfl) (fun W hW => by (obtain ⟨p0, q35⟩ := hW; go_simp; try with_reducible rfl)) (fun K hK => ?_); go_simp; refine hK _ ?_; clear hK K))
    refine wpPlanZ_serial (by rfl) (by rfl) (fun K hK => ?_)
    go_simp
    refine hK _ _ (fun h => absurd h (by decide)) ?_
    clear hK K
    repeat (first | (refine wpPlanZ_free (by rfl) (by rfl) (fun W => by (go_simp; try with_reducible rfl)) (fun K hK => ?_); go_simp; refine hK _ ?_; clear hK K) | (refine wpPlanZ_quiet (by rfl) (by rfl) (fun W hW => by (obtain ⟨p0, q35⟩ := hW; go_simp; try with_reducible rfl)) (fun K hK => ?_); go_simp; refine hK _ ?_; clear hK K))
    refine wpPlanZ_serial (by rfl) (by rfl) (fun K hK => ?_)
    go_simp
    refine hK _ _ (fun h => absurd h (by decide)) ?_
    clear hK K
    repeat (first | (refine wpPlanZ_free (by rfl) (by rfl) (fun W => by (go_simp; try with_reducible rfl)) (fun K hK => ?_); go_simp; refine hK _ ?_; clear hK K) | (refine wpPlanZ_quiet (by rfl) (by rfl) (fun W hW => by (obtain ⟨p0, q35⟩ := hW; go_simp; try with_reducible rfl)) (fun K hK => ?_); go_simp; refine hK _ ?_; clear hK K))
    refine wpPlanZ_serial (by rfl) (by rfl) (fun K hK => ?_)
    go_simp
    refine hK _ _ (fun h => absurd h (by decide)) ?_
    clear hK K
    refine wpPlanZ_nil ?_
    go_wp2
    go_ret
    refine ⟨rfl, ?_, (((KB.put 34 _).put 35 _).put 36 _).trans (Kept.drew _ _) (fun _ _ h => h)⟩
    have X : (branchP S 8 s t d m).2 = { (S.set d (Num.lo (S.pc + 8))) with pc := S.nx, nx := to, sl := true } := by rw [← hto]; unfold branchP; rw [if_neg (by simp [hsl])]; rfl
    rw [X]
    exact (((CB.a.putPc _).putNx to).putSl true).drew
  | false =>
    rw [htk, if_neg (by simp)] at hto
    unfold Num.lo at hto
    subst hto
    have CW : Cp (w.drewN n1) pb sb bb S 8 s t d m := CH.out.drewN _
    have KW : Kept w (w.drewN n1) (· = sb) := Kept.of_below _ (below_drewN (Below.refl _ _) _)
    clear p0 p1 p4 q34 q35 q36 hg
    generalize w.drewN n1 = wa at *
    have p0 := CW.p.p0
    have p1 := CW.p.p1
    have p4 := CW.p.p4
    obtain ⟨_, _, q34, q35, q36, _, _, _, _, _, _⟩ := CW.a.told
    have hset := set_any CW.drew d CW.hd (Num.lo (S.pc + 8))
    unfold Num.lo at hset
    go_upto_region 10 with fail
    refine wp_region_phase 15 [(0, 0), (1, 0), (2, 0), (3, 0), (4, 0), (5, 1), (6, 0), (7, 0), (8, 0), (9, 1), (10, 0), (11, 0), (12, 1), (13, 0), (14, 2)] (fun W => W.cell? ⟨pb, 0, none⟩ = some (.pointer (some ⟨sb, 0, none⟩)) ∧ W.cell? ⟨pb, 4, none⟩ = some (.int .i64 d) ∧ W.cell? ⟨sb, 34, none⟩ = some (.int .u32 S.pc)) (by kernel_rfl) (by kernel_rfl) (fun _ _ _ d _ h => by cases d <;> exact h) ⟨p0, p4, q34⟩ ?_
    repeat (first | (refine wpPlanZ_free (by rfl) (by rfl) (fun W => by (go_simp; try with_reducible rfl)) (fun K hK => ?_); go_simp; refine hK _ ?_; clear hK K) | (refine wpPlanZ_quiet (by rfl) (by rfl) (fun W hW => by (obtain ⟨p0, p4, q34⟩ := hW; go_simp; try with_reducible rfl)) (fun K hK => ?_); go_simp; refine hK _ ?_; clear hK K))
    refine wpPlanZ_serial (by rfl) (by rfl) (fun K hK => ?_)
    go_simp
    refine hset.mono ?_
    rintro e wb ⟨rfl, AB, TB⟩
    have KB : Kept w wb (· = sb) := (KW.trans (Kept.drew _ _) (fun _ _ h => h)).trans TB (fun _ _ h => h)
    have CB := CW.drew.turn TB AB (St.set_ok CW.ok d (lo_bd _))
    refine hK _ _ (fun _ => ⟨CB.p.p0, CB.p.p4, ?_⟩) ?_
    · have := CB.a.told.2.2.1; unfold St.set at this; split at this <;> exact this
    clear hK K
    refine wpPlanZ_nil ?_
    clear p0 p1 p4 q34 q35 q36 hset
    have p0 := CB.p.p0
    obtain ⟨_, _, q34, q35, q36, _, _, _, _, _, _⟩ := CB.a.told
    have f34 := CB.a.fz 34
    have f35 := CB.a.fz 35
    have f36 := CB.a.fz 36
    have enx : (S.set d (Num.lo (S.pc + 8))).nx = S.nx := by unfold St.set; split <;> rfl
    rw [show (Num.lo (S.pc + 8)) = (S.pc + 8) % 4294967296 from rfl] at enx
    rw [enx] at q35
    go_upto_region 11 with fail
    refine wp_region_phase 22 [(0, 0), (1, 0), (2, 0), (3, 1), (4, 0), (5, 0), (6, 0), (7, 1), (8, 0), (9, 0), (10, 0), (11, 1), (12, 0), (13, 0), (14, 0), (15, 1), (16, 0), (17, 0), (18, 1), (19, 0), (20, 0), (21, 0), (22, 2), (23, 0), (24, 0), (25, 2), (26, 0), (27, 0), (28, 2)] (fun W => W.cell? ⟨pb, 0, none⟩ = some (.pointer (some ⟨sb, 0, none⟩)) ∧ W.cell? ⟨sb, 35, none⟩ = some (.int .u32 S.nx)) (by kernel_rfl) (by kernel_rfl) (fun _ _ _ d _ h => by cases d <;> exact h) ⟨p0, q35⟩ ?_
    repeat (first | (refine wpPlanZ_free (by rfl) (by rfl) (fun W => by (go_simp; try with_reducible rfl)) (fun K hK => ?_); go_simp; refine hK _ ?_; clear hK K) | (refine wpPlanZ_quiet (by rfl) (by rfl) (fun W hW => by (obtain ⟨p0, q35⟩ := hW; go_simp; try with_reducible rfl)) (fun K hK => ?_); go_simp; refine hK _ ?_; clear hK K))
    refine wpPlanZ_serial (by rfl) (by rfl) (fun K hK => ?_)
    go_simp
    refine hK _ _ (fun h => absurd h (by decide)) ?_
    clear hK K
    repeat (first | (refine wpPlanZ_free (by rfl) (by rfl) (fun W => by (go_simp; try with_reducible rfl)) (fun K hK => ?_); go_simp; refine hK _ ?_; clear hK K) | (refine wpPlanZ_quiet (by rfl) (by rfl) (fun W hW => by (obtain ⟨p0, q35⟩ := hW; go_simp; try with_reducible rfl)) (fun K hK => ?_); go_simp; refine hK _ ?_; clear hK K))
    refine wpPlanZ_serial (by rfl) (by rfl) (fun K hK => ?_)
    go_simp
    refine hK _ _ (fun h => absurd h (by decide)) ?_
    clear hK K
    repeat (first | (refine wpPlanZ_free (by rfl) (by rfl) (fun W => by (go_simp; try with_reducible rfl)) (fun K hK => ?_); go_simp; refine hK _ ?_; clear hK K) | (refine wpPlanZ_quiet (by rfl) (by rfl) (fun W hW => by (obtain ⟨p0, q35⟩ := hW; go_simp; try with_reducible rfl)) (fun K hK => ?_); go_simp; refine hK _ ?_; clear hK K))
    refine wpPlanZ_serial (by rfl) (by rfl) (fun K hK => ?_)
    go_simp
    refine hK _ _ (fun h => absurd h (by decide)) ?_
    clear hK K
    refine wpPlanZ_nil ?_
    go_wp2
    go_ret
    refine ⟨rfl, ?_, (((KB.put 34 _).put 35 _).put 36 _).trans (Kept.drew _ _) (fun _ _ h => h)⟩
    have X : (branchP S 8 s t d m).2 = { (S.set d (Num.lo (S.pc + 8))) with pc := S.nx, nx := (S.nx + 4) % 4294967296, sl := true } := by unfold branchP; rw [if_neg (by simp [hsl]), htk]; rfl
    rw [X]
    exact (((CB.a.putPc _).putNx _).putSl true).drew
theorem branch_any (c : Cp w pb sb bb S k s t d m) (hk : k = 31 ∨ k = 32 ∨ k = 33 ∨ k = 34 ∨ k = 29 ∨ k = 30 ∨ k = 7 ∨ k = 8) : Calls Tryd.prog 61 #[.pointer (some ⟨pb, 0, none⟩)] w fun e w' => e = .returned (.int .i64 (branchP S k s t d m).1) ∧ StAt w' sb (branchP S k s t d m).2 ∧ Kept w w' (· = sb) := by
  cases hsl : S.sl with
  | true =>
    refine (branch_slot c hsl).mono ?_
    rintro e w' ⟨rfl, rfl⟩
    have X : branchP S k s t d m = (10, S) := by unfold branchP; rw [if_pos hsl]
    rw [X]
    exact ⟨rfl, c.a, Kept.refl _ _⟩
  | false =>
    have X : (branchP S k s t d m).1 = -1 := by unfold branchP; rw [if_neg (by simp [hsl])]
    rw [X]
    by_cases h1 : k = 30
    · exact branch_jal c hsl h1
    · by_cases h2 : k = 8
      · exact branch_jalr c hsl h2
      · exact branch_plain c hsl (by omega)
end
end Go.Proofs.YtckcbnfobjmhpaaDoor
