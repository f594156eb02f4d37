/-
  What a step writes: exceptions, branches, operands.
-/
import Derived.Test.YtckcbnfobjmhpaaDoorQCpu2
namespace Go.Proofs.YtckcbnfobjmhpaaDoor
open Go.RowKit Go.Maps
open Num
set_option linter.unusedVariables false
/-- a world, held by what is known of it -/
theorem ck {Q : Exit → Act → World → Prop} {e : Exit} {a : Act} {W : World} (R : World → Prop) (h : R W) (k : ∀ w1, R w1 → Q e a w1) : Q e a W := k W h
theorem wrap_lo (x : Int) : IntKind.u32.wrap x = Num.lo x := rfl
theorem sh4_bd (e : Int) : u32 (sh4 e) := by unfold sh4; rw [wrap_lo]; exact lo_bd _
theorem Cp.at {w : World} {pb sb bb : Nat} {S S' : St} {k s t d : Nat} {m : Int} (c : Cp w pb sb bb S k s t d m) {j : Nat} {v : Value} (A : StAt (w.setCell ⟨sb, j, none⟩ v) sb S') (ok : S'.ok) : Cp (w.setCell ⟨sb, j, none⟩ v) pb sb bb S' k s t d m :=
  c.turn ((Kept.refl w _).put j v) A ok
theorem St.ok_ec {S : St} (o : S.ok) {x y : Int} (hx : u32 x) (hy : u32 y) : St.ok { S with ep := x, ca := y } := ⟨o.r, o.hi, o.lo, o.pc, o.nx, o.st, hy, hx, o.bd, o.cm, o.c0, o.c1⟩
theorem St.ok_ca {S : St} (o : S.ok) {y : Int} (hy : u32 y) : St.ok { S with ca := y } := ⟨o.r, o.hi, o.lo, o.pc, o.nx, o.st, hy, o.ep, o.bd, o.cm, o.c0, o.c1⟩
theorem St.ok_st {S : St} (o : S.ok) {y : Int} (hy : u32 y) : St.ok { S with st := y } := ⟨o.r, o.hi, o.lo, o.pc, o.nx, hy, o.ca, o.ep, o.bd, o.cm, o.c0, o.c1⟩
section
variable {w : World} {pb sb bb : Nat} {S : St} {k s t d : Nat} {m : Int}
set_option maxHeartbeats 8000000 in
theorem exc_plain (c : Cp w pb sb bb S k s t d m) (e : Int) (e0 : 0 ≤ e) (e1 : e < 32) (hst : bits .and .u32 S.st 2 = 0) (hsl : S.sl = false) : Calls Tryd.prog 44 #[.pointer (some ⟨pb, 0, none⟩), .int .i64 e] w fun e' w' => e' = .returned (.tuple #[]) ∧ StAt w' sb (excP S e) ∧ Kept w w' (· = sb) := by
  have CH : Hid (Cp w pb sb bb S k s t d m) := c
  have p0 := c.p.p0
  obtain ⟨_, _, q34, q35, q36, q37, q38, q39, _, _, _⟩ := c.a.told
  have f37 := c.a.fz 37
  have f38 := c.a.fz 38
  have f39 := c.a.fz 39
  obtain ⟨pc0, pc1⟩ := c.ok.pc
  have hb : (bits .and .u32 S.st 2 == 0) = true := by simpa using hst
  clear c
  go_enter Tryd.func44, Tryd.ntmps44
  go_upto_region 1 with fail
  refine wp_region_phase 17 [(0, 0), (1, 0), (2, 0), (3, 1), (4, 0), (5, 0), (6, 0), (7, 1), (8, 0), (9, 0), (10, 0), (11, 1), (12, 0), (13, 0), (14, 1), (15, 0), (16, 0), (17, 2), (18, 0), (19, 0), (20, 2)] (fun W => W.cell? ⟨pb, 0, none⟩ = some (.pointer (some ⟨sb, 0, none⟩)) ∧ W.cell? ⟨sb, 34, none⟩ = some (.int .u32 S.pc)) (by kernel_rfl) (by kernel_rfl) (fun _ _ _ d _ h => by cases d <;> exact h) ⟨p0, q34⟩ ?_
  repeat (first | (refine wpPlanZ_free (by rfl) (by rfl) (fun W => by (go_simp; try with_reducible rfl)) (fun K hK => ?_); go_simp; refine hK _ ?_; clear hK K) | (refine wpPlanZ_quiet (by rfl) (by rfl) (fun W hW => by (obtain ⟨p0, q34⟩ := hW; go_simp; try with_reducible rfl)) (fun K hK => ?_); go_simp; refine hK _ ?_; clear hK K))
  refine wpPlanZ_serial (by rfl) (by rfl) (fun K hK => ?_)
  go_simp
  refine hK _ _ (fun h => absurd h (by decide)) ?_
  clear hK K
  repeat (first | (refine wpPlanZ_free (by rfl) (by rfl) (fun W => by (go_simp; try with_reducible rfl)) (fun K hK => ?_); go_simp; refine hK _ ?_; clear hK K) | (refine wpPlanZ_quiet (by rfl) (by rfl) (fun W hW => by (obtain ⟨p0, q34⟩ := hW; go_simp; try with_reducible rfl)) (fun K hK => ?_); go_simp; refine hK _ ?_; clear hK K))
  refine wpPlanZ_serial (by rfl) (by rfl) (fun K hK => ?_)
  go_simp
  refine hK _ _ (fun h => absurd h (by decide)) ?_
  clear hK K
  refine wpPlanZ_nil ?_
  refine ck (R := fun W => StAt W sb ({ S with ep := S.pc, ca := 0 }) ∧ Kept w W (· = sb)) ?_ (fun w1 ⟨A1, T1⟩ => ?_)
  · exact ⟨((CH.out.a.putEp _).putCa _).drew, (((Kept.refl w _).put 39 _).put 38 _).trans (Kept.drew _ _) (fun _ _ h => h)⟩
  have c1 := CH.out.turn T1 A1 (St.ok_ec CH.out.ok CH.out.ok.pc ⟨by omega, by omega⟩)
  clear p0 q34 q35 q36 q37 q38 q39 f37 f38 f39
  have p0 := c1.p.p0
  obtain ⟨_, _, _, _, q36, q37, q38, _, _, _, _⟩ := c1.a.told
  have f38 := c1.a.fz 38
  try simp only at q36 q37 q38
  rw [hsl] at q36
  go_upto_region 4 with fail
  refine wp_region_phase 18 [(0, 0), (1, 0), (2, 0), (3, 1), (4, 0), (5, 0), (6, 0), (7, 1), (8, 0), (9, 0), (10, 1), (11, 0), (12, 0), (13, 0), (14, 0), (15, 0), (16, 0), (17, 0), (18, 2)] (fun W => W.cell? ⟨pb, 0, none⟩ = some (.pointer (some ⟨sb, 0, none⟩)) ∧ W.cell? ⟨sb, 38, none⟩ = some (.int .u32 (0))) (by kernel_rfl) (by kernel_rfl) (fun _ _ _ d _ h => by cases d <;> exact h) ⟨p0, q38⟩ ?_
  repeat (first | (refine wpPlanZ_free (by rfl) (by rfl) (fun W => by (go_simp; try with_reducible rfl)) (fun K hK => ?_); go_simp; refine hK _ ?_; clear hK K) | (refine wpPlanZ_quiet (by rfl) (by rfl) (fun W hW => by (obtain ⟨p0, q38⟩ := hW; go_simp; try with_reducible rfl)) (fun K hK => ?_); go_simp; refine hK _ ?_; clear hK K))
  refine wpPlanZ_serial (by rfl) (by rfl) (fun K hK => ?_)
  go_simp
  refine hK _ _ (fun h => absurd h (by decide)) ?_
  clear hK K
  refine wpPlanZ_nil ?_
  refine ck (R := fun W => StAt W sb ({ ({ S with ep := S.pc, ca := 0 }) with ca := bits .or .u32 (bits .andNot .u32 (0) 124) (sh4 e) }) ∧ Kept w W (· = sb)) ?_ (fun w9 ⟨A9, T9⟩ => ?_)
  · exact ⟨(A1.putCa _).drew, (T1.put 38 _).trans (Kept.drew _ _) (fun _ _ h => h)⟩
  have c9 := CH.out.turn T9 A9 (St.ok_ca c1.ok (or_bd (andNot_bd c1.ok.ca ⟨by omega, by omega⟩) (sh4_bd e)))
  have okst := c1.ok.st
  clear p0 q36 q37 q38 f38
  have p0 := c9.p.p0
  obtain ⟨_, _, _, _, _, q37, _, _, _, _, _⟩ := c9.a.told
  have f37 := c9.a.fz 37
  try simp only at q37
  have A8 := c9.a.putSt (bits .or .u32 S.st 2)
  have c8 := c9.at A8 (St.ok_st c9.ok (or_bd okst ⟨by omega, by omega⟩))
  have hj := jump_any c8 384 ⟨by omega, by omega⟩
  go_wp2_with (go_at_call 66; refine hj.mono ?_; rintro e' w7 ⟨rfl, A7, T7⟩)
  go_end0
  refine ⟨rfl, ?_, (T9.put 37 _).trans T7 (fun _ _ h => h)⟩
  have X : exc1 S = { S with ep := S.pc, ca := 0 } := by unfold exc1; rw [if_pos hst, if_neg (by simp [hsl])]
  unfold excP
  rw [X]
  exact A7
set_option maxHeartbeats 8000000 in
theorem exc_slot (c : Cp w pb sb bb S k s t d m) (e : Int) (e0 : 0 ≤ e) (e1 : e < 32) (hst : bits .and .u32 S.st 2 = 0) (hsl : S.sl = true) : Calls Tryd.prog 44 #[.pointer (some ⟨pb, 0, none⟩), .int .i64 e] w fun e' w' => e' = .returned (.tuple #[]) ∧ StAt w' sb (excP S e) ∧ Kept w w' (· = sb) := by
  have CH : Hid (Cp w pb sb bb S k s t d m) := c
  have p0 := c.p.p0
  obtain ⟨_, _, q34, q35, q36, q37, q38, q39, _, _, _⟩ := c.a.told
  have f37 := c.a.fz 37
  have f38 := c.a.fz 38
  have f39 := c.a.fz 39
  obtain ⟨pc0, pc1⟩ := c.ok.pc
  have hb : (bits .and .u32 S.st 2 == 0) = true := by simpa using hst
  clear c
  go_enter Tryd.func44, Tryd.ntmps44
  go_upto_region 1 with fail
  refine wp_region_phase 17 [(0, 0), (1, 0), (2, 0), (3, 1), (4, 0), (5, 0), (6, 0), (7, 1), (8, 0), (9, 0), (10, 0), (11, 1), (12, 0), (13, 0), (14, 1), (15, 0), (16, 0), (17, 2), (18, 0), (19, 0), (20, 2)] (fun W => W.cell? ⟨pb, 0, none⟩ = some (.pointer (some ⟨sb, 0, none⟩)) ∧ W.cell? ⟨sb, 34, none⟩ = some (.int .u32 S.pc)) (by kernel_rfl) (by kernel_rfl) (fun _ _ _ d _ h => by cases d <;> exact h) ⟨p0, q34⟩ ?_
  repeat (first | (refine wpPlanZ_free (by rfl) (by rfl) (fun W => by (go_simp; try with_reducible rfl)) (fun K hK => ?_); go_simp; refine hK _ ?_; clear hK K) | (refine wpPlanZ_quiet (by rfl) (by rfl) (fun W hW => by (obtain ⟨p0, q34⟩ := hW; go_simp; try with_reducible rfl)) (fun K hK => ?_); go_simp; refine hK _ ?_; clear hK K))
  refine wpPlanZ_serial (by rfl) (by rfl) (fun K hK => ?_)
  go_simp
  refine hK _ _ (fun h => absurd h (by decide)) ?_
  clear hK K
  repeat (first | (refine wpPlanZ_free (by rfl) (by rfl) (fun W => by (go_simp; try with_reducible rfl)) (fun K hK => ?_); go_simp; refine hK _ ?_; clear hK K) | (refine wpPlanZ_quiet (by rfl) (by rfl) (fun W hW => by (obtain ⟨p0, q34⟩ := hW; go_simp; try with_reducible rfl)) (fun K hK => ?_); go_simp; refine hK _ ?_; clear hK K))
  refine wpPlanZ_serial (by rfl) (by rfl) (fun K hK => ?_)
  go_simp
  refine hK _ _ (fun h => absurd h (by decide)) ?_
  clear hK K
  refine wpPlanZ_nil ?_
  refine ck (R := fun W => StAt W sb ({ S with ep := S.pc, ca := 0 }) ∧ Kept w W (· = sb)) ?_ (fun w1 ⟨A1, T1⟩ => ?_)
  · exact ⟨((CH.out.a.putEp _).putCa _).drew, (((Kept.refl w _).put 39 _).put 38 _).trans (Kept.drew _ _) (fun _ _ h => h)⟩
  have c1 := CH.out.turn T1 A1 (St.ok_ec CH.out.ok CH.out.ok.pc ⟨by omega, by omega⟩)
  clear p0 q34 q35 q36 q37 q38 q39 f37 f38 f39
  have p0 := c1.p.p0
  obtain ⟨_, _, q34, _, q36, _, q38, q39, _, _, _⟩ := c1.a.told
  have f38 := c1.a.fz 38
  have f39 := c1.a.fz 39
  simp only at q34 q36 q38 q39
  rw [hsl] at q36
  go_upto_region 3 with fail
  refine wp_region_phase 18 [(0, 0), (1, 0), (2, 0), (3, 1), (4, 0), (5, 0), (6, 0), (7, 1), (8, 0), (9, 0), (10, 0), (11, 1), (12, 0), (13, 0), (14, 1), (15, 0), (16, 0), (17, 0), (18, 2), (19, 0), (20, 0), (21, 2)] (fun W => W.cell? ⟨pb, 0, none⟩ = some (.pointer (some ⟨sb, 0, none⟩)) ∧ W.cell? ⟨sb, 34, none⟩ = some (.int .u32 S.pc)) (by kernel_rfl) (by kernel_rfl) (fun _ _ _ d _ h => by cases d <;> exact h) ⟨p0, q34⟩ ?_
  repeat (first | (refine wpPlanZ_free (by rfl) (by rfl) (fun W => by (go_simp; try with_reducible rfl)) (fun K hK => ?_); go_simp; refine hK _ ?_; clear hK K) | (refine wpPlanZ_quiet (by rfl) (by rfl) (fun W hW => by (obtain ⟨p0, q34⟩ := hW; go_simp; try with_reducible rfl)) (fun K hK => ?_); go_simp; refine hK _ ?_; clear hK K))
  refine wpPlanZ_serial (by rfl) (by rfl) (fun K hK => ?_)
  go_simp
  refine hK _ _ (fun h => absurd h (by decide)) ?_
  clear hK K
  repeat (first | (refine wpPlanZ_free (by rfl) (by rfl) (fun W => by (go_simp; try with_reducible rfl)) (fun K hK => ?_); go_simp; refine hK _ ?_; clear hK K) | (refine wpPlanZ_quiet (by rfl) (by rfl) (fun W hW => by (obtain ⟨p0, q34⟩ := hW; go_simp; try with_reducible rfl)) (fun K hK => ?_); go_simp; refine hK _ ?_; clear hK K))
  refine wpPlanZ_serial (by rfl) (by rfl) (fun K hK => ?_)
  go_simp
  refine hK _ _ (fun h => absurd h (by decide)) ?_
  clear hK K
  refine wpPlanZ_nil ?_
  refine ck (R := fun W => StAt W sb ({ S with ep := Num.lo (S.pc - 4), ca := 2147483648 }) ∧ Kept w W (· = sb)) ?_ (fun w2 ⟨A2, T2⟩ => ?_)
  · exact ⟨((A1.putEp _).putCa _).drew, ((T1.put 39 _).put 38 _).trans (Kept.drew _ _) (fun _ _ h => h)⟩
  have c2 := CH.out.turn T2 A2 (St.ok_ec CH.out.ok (lo_bd _) ⟨by omega, by omega⟩)
  clear p0 q34 q36 q38 q39 f38 f39
  have p0 := c2.p.p0
  obtain ⟨_, _, _, _, q36, q37, q38, _, _, _, _⟩ := c2.a.told
  have f38 := c2.a.fz 38
  try simp only at q36 q37 q38
  go_upto_region 4 with fail
  refine wp_region_phase 18 [(0, 0), (1, 0), (2, 0), (3, 1), (4, 0), (5, 0), (6, 0), (7, 1), (8, 0), (9, 0), (10, 1), (11, 0), (12, 0), (13, 0), (14, 0), (15, 0), (16, 0), (17, 0), (18, 2)] (fun W => W.cell? ⟨pb, 0, none⟩ = some (.pointer (some ⟨sb, 0, none⟩)) ∧ W.cell? ⟨sb, 38, none⟩ = some (.int .u32 (2147483648))) (by kernel_rfl) (by kernel_rfl) (fun _ _ _ d _ h => by cases d <;> exact h) ⟨p0, q38⟩ ?_
  repeat (first | (refine wpPlanZ_free (by rfl) (by rfl) (fun W => by (go_simp; try with_reducible rfl)) (fun K hK => ?_); go_simp; refine hK _ ?_; clear hK K) | (refine wpPlanZ_quiet (by rfl) (by rfl) (fun W hW => by (obtain ⟨p0, q38⟩ := hW; go_simp; try with_reducible rfl)) (fun K hK => ?_); go_simp; refine hK _ ?_; clear hK K))
  refine wpPlanZ_serial (by rfl) (by rfl) (fun K hK => ?_)
  go_simp
  refine hK _ _ (fun h => absurd h (by decide)) ?_
  clear hK K
  refine wpPlanZ_nil ?_
  refine ck (R := fun W => StAt W sb ({ ({ S with ep := Num.lo (S.pc - 4), ca := 2147483648 }) with ca := bits .or .u32 (bits .andNot .u32 (2147483648) 124) (sh4 e) }) ∧ Kept w W (· = sb)) ?_ (fun w9 ⟨A9, T9⟩ => ?_)
  · exact ⟨(A2.putCa _).drew, (T2.put 38 _).trans (Kept.drew _ _) (fun _ _ h => h)⟩
  have c9 := CH.out.turn T9 A9 (St.ok_ca c2.ok (or_bd (andNot_bd c2.ok.ca ⟨by omega, by omega⟩) (sh4_bd e)))
  have okst := c2.ok.st
  clear p0 q36 q37 q38 f38
  have p0 := c9.p.p0
  obtain ⟨_, _, _, _, _, q37, _, _, _, _, _⟩ := c9.a.told
  have f37 := c9.a.fz 37
  try simp only at q37
  have A8 := c9.a.putSt (bits .or .u32 S.st 2)
  have c8 := c9.at A8 (St.ok_st c9.ok (or_bd okst ⟨by omega, by omega⟩))
  have hj := jump_any c8 384 ⟨by omega, by omega⟩
  go_wp2_with (go_at_call 66; refine hj.mono ?_; rintro e' w7 ⟨rfl, A7, T7⟩)
  go_end0
  refine ⟨rfl, ?_, (T9.put 37 _).trans T7 (fun _ _ h => h)⟩
  have X : exc1 S = { S with ep := Num.lo (S.pc - 4), ca := 2147483648 } := by unfold exc1; rw [if_pos hst, if_pos hsl]
  unfold excP
  rw [X]
  exact A7
set_option maxHeartbeats 8000000 in
theorem exc_in (c : Cp w pb sb bb S k s t d m) (e : Int) (e0 : 0 ≤ e) (e1 : e < 32) (hst : ¬ bits .and .u32 S.st 2 = 0) : Calls Tryd.prog 44 #[.pointer (some ⟨pb, 0, none⟩), .int .i64 e] w fun e' w' => e' = .returned (.tuple #[]) ∧ StAt w' sb (excP S e) ∧ Kept w w' (· = sb) := by
  have CH : Hid (Cp w pb sb bb S k s t d m) := c
  have p0 := c.p.p0
  obtain ⟨_, _, q34, q35, q36, q37, q38, q39, _, _, _⟩ := c.a.told
  have f37 := c.a.fz 37
  have f38 := c.a.fz 38
  have f39 := c.a.fz 39
  obtain ⟨pc0, pc1⟩ := c.ok.pc
  have hb : (bits .and .u32 S.st 2 == 0) = false := by simpa using hst
  have c0 := c
  have A0 := c.a
  have T0 := Kept.refl w (· = sb)
  clear c p0 q34 q35 q36 q37 q38 q39 f37 f38 f39
  go_enter Tryd.func44, Tryd.ntmps44
  have p0 := c0.p.p0
  obtain ⟨_, _, _, _, q36, q37, q38, _, _, _, _⟩ := c0.a.told
  have f38 := c0.a.fz 38
  try simp only at q36 q37 q38
  go_upto_region 4 with fail
  refine wp_region_phase 18 [(0, 0), (1, 0), (2, 0), (3, 1), (4, 0), (5, 0), (6, 0), (7, 1), (8, 0), (9, 0), (10, 1), (11, 0), (12, 0), (13, 0), (14, 0), (15, 0), (16, 0), (17, 0), (18, 2)] (fun W => W.cell? ⟨pb, 0, none⟩ = some (.pointer (some ⟨sb, 0, none⟩)) ∧ W.cell? ⟨sb, 38, none⟩ = some (.int .u32 (S.ca))) (by kernel_rfl) (by kernel_rfl) (fun _ _ _ d _ h => by cases d <;> exact h) ⟨p0, q38⟩ ?_
  repeat (first | (refine wpPlanZ_free (by rfl) (by rfl) (fun W => by (go_simp; try with_reducible rfl)) (fun K hK => ?_); go_simp; refine hK _ ?_; clear hK K) | (refine wpPlanZ_quiet (by rfl) (by rfl) (fun W hW => by (obtain ⟨p0, q38⟩ := hW; go_simp; try with_reducible rfl)) (fun K hK => ?_); go_simp; refine hK _ ?_; clear hK K))
  refine wpPlanZ_serial (by rfl) (by rfl) (fun K hK => ?_)
  go_simp
  refine hK _ _ (fun h => absurd h (by decide)) ?_
  clear hK K
  refine wpPlanZ_nil ?_
  refine ck (R := fun W => StAt W sb ({ (S) with ca := bits .or .u32 (bits .andNot .u32 (S.ca) 124) (sh4 e) }) ∧ Kept w W (· = sb)) ?_ (fun w9 ⟨A9, T9⟩ => ?_)
  · exact ⟨(A0.putCa _).drew, (T0.put 38 _).trans (Kept.drew _ _) (fun _ _ h => h)⟩
  have c9 := CH.out.turn T9 A9 (St.ok_ca c0.ok (or_bd (andNot_bd c0.ok.ca ⟨by omega, by omega⟩) (sh4_bd e)))
  have okst := c0.ok.st
  clear p0 q36 q37 q38 f38
  have p0 := c9.p.p0
  obtain ⟨_, _, _, _, _, q37, _, _, _, _, _⟩ := c9.a.told
  have f37 := c9.a.fz 37
  try simp only at q37
  have A8 := c9.a.putSt (bits .or .u32 S.st 2)
  have c8 := c9.at A8 (St.ok_st c9.ok (or_bd okst ⟨by omega, by omega⟩))
  have hj := jump_any c8 384 ⟨by omega, by omega⟩
  go_wp2_with (go_at_call 66; refine hj.mono ?_; rintro e' w7 ⟨rfl, A7, T7⟩)
  go_end0
  refine ⟨rfl, ?_, (T9.put 37 _).trans T7 (fun _ _ h => h)⟩
  have X : exc1 S = S := by unfold exc1; rw [if_neg hst]
  unfold excP
  rw [X]
  exact A7
set_option maxHeartbeats 8000000 in
theorem except_any (c : Cp w pb sb bb S k s t d m) (e : Int) (e0 : 0 ≤ e) (e1 : e < 32) : Calls Tryd.prog 44 #[.pointer (some ⟨pb, 0, none⟩), .int .i64 e] w fun e' w' => e' = .returned (.tuple #[]) ∧ StAt w' sb (excP S e) ∧ Kept w w' (· = sb) := by
  by_cases hst : bits .and .u32 S.st 2 = 0
  · cases hsl : S.sl with
    | true => exact exc_slot c e e0 e1 hst hsl
    | false => exact exc_plain c e e0 e1 hst hsl
  · exact exc_in c e e0 e1 hst
end
end Go.Proofs.YtckcbnfobjmhpaaDoor
