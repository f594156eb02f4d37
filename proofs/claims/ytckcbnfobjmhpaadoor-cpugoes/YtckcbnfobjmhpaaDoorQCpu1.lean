/-
  What a step reads, and its small writes.
-/
import Derived.BigQuiet
import Derived.Test.YtckcbnfobjmhpaaDoorQSt
import Derived.Test.YtckcbnfobjmhpaaDoorQSp
import Derived.Test.YtckcbnfobjmhpaaDoorKSerial
namespace Go.Proofs.YtckcbnfobjmhpaaDoor
open Go.RowKit Go.Maps
open Num
set_option linter.unusedVariables false
theorem nk {k n : Nat} (h : k ≠ n) : ((k : Int) == (n : Int)) = false := by simp; omega
theorem immI_bd {k : Nat} {m : Int} (m0 : 0 ≤ m) (m1 : m < 4294967296) : u32 (immI k m) := by
  unfold immI; split
  · exact ⟨m0, m1⟩
  · exact wd_bd m0 m1 _
theorem St.set_ok {S : St} (o : S.ok) (n : Nat) {v : Int} (hv : u32 v) : (S.set n v).ok := by
  unfold St.set
  split
  · exact o
  · exact ⟨fun i => by show u32 (if i = n then v else S.r i); split; exact hv; exact o.r i, o.hi, o.lo, o.pc, o.nx, o.st, o.ca, o.ep, o.bd, o.cm, o.c0, o.c1⟩
theorem St.on_ok {S : St} (o : S.ok) : S.on.ok := ⟨o.r, o.hi, o.lo, o.nx, lo_bd _, o.st, o.ca, o.ep, o.bd, o.cm, o.c0, o.c1⟩
theorem St.jump_ok {S : St} (o : S.ok) {a : Int} (ha : u32 a) : (S.jump a).ok := ⟨o.r, o.hi, o.lo, ha, lo_bd _, o.st, o.ca, o.ep, o.bd, o.cm, o.c0, o.c1⟩
section
variable {w : World} {pb sb bb : Nat} {S : St} {k s t d : Nat} {m : Int}
set_option maxHeartbeats 1000000 in
theorem bad_any (c : Cp w pb sb bb S k s t d m) (e a : Int) : Calls Tryd.prog 59 #[.pointer (some ⟨pb, 0, none⟩), .int .i64 e, .int .u32 a] w fun e' w' => e' = .returned (.int .i64 e) ∧ StAt w' sb { S with bd := a } ∧ Kept w w' (· = sb) := by
  have p0 := c.p.p0
  have q40 := c.a.told.2.2.2.2.2.2.2.2.1
  have f40 := c.a.fz 40
  have A := c.a.putBd a
  clear c
  go_enter Tryd.func59, Tryd.ntmps59
  go_wp2
  go_ret
  exact ⟨rfl, A, Kept.setCell _ _ _ _ rfl⟩
set_option maxHeartbeats 1000000 in
theorem set_any (c : Cp w pb sb bb S k s t d m) (n : Nat) (hn : n < 32) (v : Int) : Calls Tryd.prog 78 #[.pointer (some ⟨pb, 0, none⟩), .int .i64 n, .int .u32 v] w fun e w' => e = .returned (.tuple #[]) ∧ StAt w' sb (S.set n v) ∧ Kept w w' (· = sb) := by
  have p0 := c.p.p0
  have qn := c.a.reg hn
  have fn := c.a.fz n
  by_cases h : n = 0
  · subst h
    have A : StAt w sb (S.set 0 v) := c.a
    clear c
    go_enter Tryd.func78, Tryd.ntmps78
    go_wp2
    go_end0
    exact ⟨rfl, A, Kept.refl _ _⟩
  · have A : StAt (w.setCell ⟨sb, n, none⟩ (.int .u32 v)) sb (S.set n v) := by unfold St.set; rw [if_neg h]; exact c.a.putR n hn v
    have hb : ((n : Int) != 0) = true := by simp; omega
    have hn' : (n : Int) < 32 := by omega
    clear c
    go_enter Tryd.func78, Tryd.ntmps78
    go_wp2
    go_end0
    exact ⟨rfl, A, Kept.setCell _ _ _ _ rfl⟩
set_option maxHeartbeats 1000000 in
theorem jump_any (c : Cp w pb sb bb S k s t d m) (a : Int) (ha : u32 a) : Calls Tryd.prog 66 #[.pointer (some ⟨pb, 0, none⟩), .int .u32 a] w fun e w' => e = .returned (.tuple #[]) ∧ StAt w' sb (S.jump a) ∧ Kept w w' (· = sb) := by
  have p0 := c.p.p0
  obtain ⟨_, _, q34, q35, q36, _⟩ := c.a.told
  have f34 := c.a.fz 34
  have f35 := c.a.fz 35
  have f36 := c.a.fz 36
  have A := ((c.a.drew.putPc a).putNx (Num.lo (a + 4))).putSl false
  have T : Kept w (((w.drew.setCell ⟨sb, 34, none⟩ (.int .u32 a)).setCell ⟨sb, 35, none⟩ (.int .u32 (Num.lo (a + 4)))).setCell ⟨sb, 36, none⟩ (.bool false)) (· = sb) :=
    (((Kept.drew w _).put 34 _).put 35 _).put 36 _
  unfold Num.lo at A T
  clear c
  go_enter Tryd.func66, Tryd.ntmps66
  go_upto_region 0 with fail
  refine wp_region_phase 17 [(0, 0), (1, 0), (2, 0), (3, 1), (4, 0), (5, 0), (6, 0), (7, 1), (8, 0), (9, 0), (10, 0), (11, 1), (12, 0), (13, 0), (14, 0), (15, 0), (16, 0), (17, 2), (18, 0), (19, 0), (20, 2), (21, 0), (22, 0), (23, 2)] (fun W => W.cell? ⟨pb, 0, none⟩ = some (.pointer (some ⟨sb, 0, none⟩))) (by kernel_rfl) (by kernel_rfl) (fun _ _ _ d _ h => by cases d <;> exact h) p0 ?_
  repeat (first | (refine wpPlanZ_free (by rfl) (by rfl) (fun W => by (go_simp; try with_reducible rfl)) (fun K hK => ?_); go_simp; refine hK _ ?_; clear hK K) | (refine wpPlanZ_quiet (by rfl) (by rfl) (fun W hW => by (have p0 := hW; go_simp; try with_reducible rfl)) (fun K hK => ?_); go_simp; refine hK _ ?_; clear hK K))
  refine wpPlanZ_serial (by rfl) (by rfl) (fun K hK => ?_)
  go_simp
  refine hK _ _ (fun h => absurd h (by decide)) ?_
  clear hK K
  repeat (first | (refine wpPlanZ_free (by rfl) (by rfl) (fun W => by (go_simp; try with_reducible rfl)) (fun K hK => ?_); go_simp; refine hK _ ?_; clear hK K) | (refine wpPlanZ_quiet (by rfl) (by rfl) (fun W hW => by (have p0 := hW; go_simp; try with_reducible rfl)) (fun K hK => ?_); go_simp; refine hK _ ?_; clear hK K))
  refine wpPlanZ_serial (by rfl) (by rfl) (fun K hK => ?_)
  go_simp
  refine hK _ _ (fun h => absurd h (by decide)) ?_
  clear hK K
  repeat (first | (refine wpPlanZ_free (by rfl) (by rfl) (fun W => by (go_simp; try with_reducible rfl)) (fun K hK => ?_); go_simp; refine hK _ ?_; clear hK K) | (refine wpPlanZ_quiet (by rfl) (by rfl) (fun W hW => by (have p0 := hW; go_simp; try with_reducible rfl)) (fun K hK => ?_); go_simp; refine hK _ ?_; clear hK K))
  refine wpPlanZ_serial (by rfl) (by rfl) (fun K hK => ?_)
  go_simp
  refine hK _ _ (fun h => absurd h (by decide)) ?_
  clear hK K
  refine wpPlanZ_nil ?_
  go_wp2
  go_end0
  exact ⟨rfl, A, T⟩
set_option maxHeartbeats 1000000 in
theorem goOn_any (c : Cp w pb sb bb S k s t d m) : Calls Tryd.prog 82 #[.pointer (some ⟨pb, 0, none⟩)] w fun e w' => e = .returned (.int .i64 (-1)) ∧ StAt w' sb S.on ∧ Kept w w' (· = sb) := by
  have p0 := c.p.p0
  obtain ⟨_, _, q34, q35, q36, _⟩ := c.a.told
  have f34 := c.a.fz 34
  have f35 := c.a.fz 35
  have f36 := c.a.fz 36
  have A := ((c.a.drew.putPc S.nx).putNx (Num.lo (S.nx + 4))).putSl false
  have T : Kept w (((w.drew.setCell ⟨sb, 34, none⟩ (.int .u32 S.nx)).setCell ⟨sb, 35, none⟩ (.int .u32 (Num.lo (S.nx + 4)))).setCell ⟨sb, 36, none⟩ (.bool false)) (· = sb) :=
    (((Kept.drew w _).put 34 _).put 35 _).put 36 _
  unfold Num.lo at A T
  clear c
  go_enter Tryd.func82, Tryd.ntmps82
  go_upto_region 1 with fail
  refine wp_region_phase 29 [(0, 0), (1, 0), (2, 0), (3, 1), (4, 0), (5, 0), (6, 0), (7, 1), (8, 0), (9, 0), (10, 0), (11, 1), (12, 0), (13, 0), (14, 0), (15, 1), (16, 0), (17, 0), (18, 1), (19, 0), (20, 0), (21, 0), (22, 1), (23, 0), (24, 0), (25, 1), (26, 0), (27, 0), (28, 0), (29, 2), (30, 0), (31, 0), (32, 2), (33, 0), (34, 0), (35, 2)] (fun W => W.cell? ⟨pb, 0, none⟩ = some (.pointer (some ⟨sb, 0, none⟩)) ∧ W.cell? ⟨sb, 35, none⟩ = some (.int .u32 S.nx)) (by kernel_rfl) (by kernel_rfl) (fun _ _ _ d _ h => by cases d <;> exact h) ⟨p0, q35⟩ ?_
  repeat (first | (refine wpPlanZ_free (by rfl) (by rfl) (fun W => by (go_simp; try with_reducible rfl)) (fun K hK => ?_); go_simp; refine hK _ ?_; clear hK K) | (refine wpPlanZ_quiet (by rfl) (by rfl) (fun W hW => by (obtain ⟨p0, q35⟩ := hW; go_simp; try with_reducible rfl)) (fun K hK => ?_); go_simp; refine hK _ ?_; clear hK K))
  refine wpPlanZ_serial (by rfl) (by rfl) (fun K hK => ?_)
  go_simp
  refine hK _ _ (fun h => absurd h (by decide)) ?_
  clear hK K
  repeat (first | (refine wpPlanZ_free (by rfl) (by rfl) (fun W => by (go_simp; try with_reducible rfl)) (fun K hK => ?_); go_simp; refine hK _ ?_; clear hK K) | (refine wpPlanZ_quiet (by rfl) (by rfl) (fun W hW => by (obtain ⟨p0, q35⟩ := hW; go_simp; try with_reducible rfl)) (fun K hK => ?_); go_simp; refine hK _ ?_; clear hK K))
  refine wpPlanZ_serial (by rfl) (by rfl) (fun K hK => ?_)
  go_simp
  refine hK _ _ (fun h => absurd h (by decide)) ?_
  clear hK K
  repeat (first | (refine wpPlanZ_free (by rfl) (by rfl) (fun W => by (go_simp; try with_reducible rfl)) (fun K hK => ?_); go_simp; refine hK _ ?_; clear hK K) | (refine wpPlanZ_quiet (by rfl) (by rfl) (fun W hW => by (obtain ⟨p0, q35⟩ := hW; go_simp; try with_reducible rfl)) (fun K hK => ?_); go_simp; refine hK _ ?_; clear hK K))
  refine wpPlanZ_serial (by rfl) (by rfl) (fun K hK => ?_)
  go_simp
  refine hK _ _ (fun h => absurd h (by decide)) ?_
  clear hK K
  refine wpPlanZ_nil ?_
  go_wp2
  go_ret
  exact ⟨rfl, A, T⟩
end
end Go.Proofs.YtckcbnfobjmhpaaDoor
