/-
  What has to do with exceptions.
-/
import Derived.Test.YtckcbnfobjmhpaaDoorQCpu3
namespace Go.Proofs.YtckcbnfobjmhpaaDoor
open Go.RowKit Go.Maps
open Num
set_option linter.unusedVariables false
section
variable {w : World} {pb sb bb : Nat} {S : St} {k s t d : Nat} {m : Int}
theorem St.ok_cm {S : St} (o : S.ok) {y : Int} (hy : u32 y) : St.ok { S with cm := y } := ⟨o.r, o.hi, o.lo, o.pc, o.nx, o.st, o.ca, o.ep, o.bd, hy, o.c0, o.c1⟩
theorem St.ok_ep {S : St} (o : S.ok) {y : Int} (hy : u32 y) : St.ok { S with ep := y } := ⟨o.r, o.hi, o.lo, o.pc, o.nx, o.st, o.ca, hy, o.bd, o.cm, o.c0, o.c1⟩
set_option maxHeartbeats 8000000 in
theorem from_any (c : Cp w pb sb bb S k s t d m) : Calls Tryd.prog 84 #[.pointer (some ⟨pb, 0, none⟩)] w fun e w' => e = .returned (.int .i64 (fromP S t d).1) ∧ StAt w' sb (fromP S t d).2 ∧ Kept w w' (· = sb) := by
  have CH : Hid (Cp w pb sb bb S k s t d m) := c
  have p0 := c.p.p0
  have p3 := c.p.p3
  have p4 := c.p.p4
  obtain ⟨_, _, _, _, _, q37, q38, q39, q40, q41, q42⟩ := c.a.told
  have ok := c.ok
  clear c
  by_cases h8 : d = 8
  · subst h8
    go_enter Tryd.func84, Tryd.ntmps84
    go_wp2_with fail
    refine (set_any CH.out t CH.out.ht _).mono ?_
    rintro e w1 ⟨rfl, A1, T1⟩
    have c1 := CH.out.turn T1 A1 (St.set_ok CH.out.ok t (ok.bd))
    have hg := goOn_any c1
    go_wp2_with fail
    refine hg.mono ?_
    rintro e w2 ⟨rfl, A2, T2⟩
    go_wp2
    go_ret
    exact ⟨rfl, A2, T1.trans T2 (fun _ _ h => h)⟩
  by_cases h9 : d = 9
  · subst h9
    go_enter Tryd.func84, Tryd.ntmps84
    go_wp2_with fail
    refine (set_any CH.out t CH.out.ht _).mono ?_
    rintro e w1 ⟨rfl, A1, T1⟩
    have c1 := CH.out.turn T1 A1 (St.set_ok CH.out.ok t (lo_bd _))
    have hg := goOn_any c1
    go_wp2_with fail
    refine hg.mono ?_
    rintro e w2 ⟨rfl, A2, T2⟩
    go_wp2
    go_ret
    exact ⟨rfl, A2, T1.trans T2 (fun _ _ h => h)⟩
  by_cases h11 : d = 11
  · subst h11
    go_enter Tryd.func84, Tryd.ntmps84
    go_wp2_with fail
    refine (set_any CH.out t CH.out.ht _).mono ?_
    rintro e w1 ⟨rfl, A1, T1⟩
    have c1 := CH.out.turn T1 A1 (St.set_ok CH.out.ok t (ok.cm))
    have hg := goOn_any c1
    go_wp2_with fail
    refine hg.mono ?_
    rintro e w2 ⟨rfl, A2, T2⟩
    go_wp2
    go_ret
    exact ⟨rfl, A2, T1.trans T2 (fun _ _ h => h)⟩
  by_cases h12 : d = 12
  · subst h12
    go_enter Tryd.func84, Tryd.ntmps84
    go_wp2_with fail
    refine (set_any CH.out t CH.out.ht _).mono ?_
    rintro e w1 ⟨rfl, A1, T1⟩
    have c1 := CH.out.turn T1 A1 (St.set_ok CH.out.ok t (ok.st))
    have hg := goOn_any c1
    go_wp2_with fail
    refine hg.mono ?_
    rintro e w2 ⟨rfl, A2, T2⟩
    go_wp2
    go_ret
    exact ⟨rfl, A2, T1.trans T2 (fun _ _ h => h)⟩
  by_cases h13 : d = 13
  · subst h13
    go_enter Tryd.func84, Tryd.ntmps84
    go_wp2_with fail
    refine (set_any CH.out t CH.out.ht _).mono ?_
    rintro e w1 ⟨rfl, A1, T1⟩
    have c1 := CH.out.turn T1 A1 (St.set_ok CH.out.ok t (ok.ca))
    have hg := goOn_any c1
    go_wp2_with fail
    refine hg.mono ?_
    rintro e w2 ⟨rfl, A2, T2⟩
    go_wp2
    go_ret
    exact ⟨rfl, A2, T1.trans T2 (fun _ _ h => h)⟩
  by_cases h14 : d = 14
  · subst h14
    go_enter Tryd.func84, Tryd.ntmps84
    go_wp2_with fail
    refine (set_any CH.out t CH.out.ht _).mono ?_
    rintro e w1 ⟨rfl, A1, T1⟩
    have c1 := CH.out.turn T1 A1 (St.set_ok CH.out.ok t (ok.ep))
    have hg := goOn_any c1
    go_wp2_with fail
    refine hg.mono ?_
    rintro e w2 ⟨rfl, A2, T2⟩
    go_wp2
    go_ret
    exact ⟨rfl, A2, T1.trans T2 (fun _ _ h => h)⟩
  have X : fromP S t d = (10, S) := by unfold fromP; rw [if_neg h8, if_neg h9, if_neg h11, if_neg h12, if_neg h13, if_neg h14]
  rw [X]
  have A := CH.out.a
  have b8 := nk h8
  have b9 := nk h9
  have b11 := nk h11
  have b12 := nk h12
  have b13 := nk h13
  have b14 := nk h14
  clear h8 h9 h11 h12 h13 h14 X ok CH
  go_enter Tryd.func84, Tryd.ntmps84
  go_wp2
  go_ret
  exact ⟨rfl, A, Kept.refl _ _⟩
set_option maxHeartbeats 8000000 in
theorem to_any (c : Cp w pb sb bb S k s t d m) : Calls Tryd.prog 85 #[.pointer (some ⟨pb, 0, none⟩)] w fun e w' => e = .returned (.int .i64 (toP S t d).1) ∧ StAt w' sb (toP S t d).2 ∧ Kept w w' (· = sb) := by
  have CH : Hid (Cp w pb sb bb S k s t d m) := c
  have p0 := c.p.p0
  have p3 := c.p.p3
  have qt := c.a.reg c.ht
  have ht : (t : Int) < 32 := by have := c.ht; omega
  clear c
  go_enter Tryd.func85, Tryd.ntmps85
  go_wp2
  go_quiet (fail)
  have CN : Cp (w.drewN nq) pb sb bb S k s t d m := CH.out.drewN nq
  have KN : Kept w (w.drewN nq) (· = sb) := Kept.of_below _ (below_drewN (Below.refl _ _) _)
  clear p0 p3 qt CH
  generalize w.drewN nq = w1 at *
  have p0 := CN.p.p0
  have p4 := CN.p.p4
  obtain ⟨_, _, _, _, _, q37, _, q39, _, q41, _⟩ := CN.a.told
  have f37 := CN.a.fz 37
  have f39 := CN.a.fz 39
  have f41 := CN.a.fz 41
  by_cases h11 : d = 11
  · subst h11
    have hg := goOn_any (CN.at (CN.a.putCm (S.r t)) (St.ok_cm CN.ok (CN.ok.r t)))
    go_wp2_with fail
    refine hg.mono ?_
    rintro e w2 ⟨rfl, A2, T2⟩
    go_wp2
    go_ret
    exact ⟨rfl, A2, (KN.put _ _).trans T2 (fun _ _ h => h)⟩
  by_cases h12 : d = 12
  · subst h12
    have hg := goOn_any (CN.at (CN.a.putSt (bits .and .u32 (S.r t) 3)) (St.ok_st CN.ok (and_bd (CN.ok.r t) ⟨by omega, by omega⟩)))
    go_wp2_with fail
    refine hg.mono ?_
    rintro e w2 ⟨rfl, A2, T2⟩
    go_wp2
    go_ret
    exact ⟨rfl, A2, (KN.put _ _).trans T2 (fun _ _ h => h)⟩
  by_cases h14 : d = 14
  · subst h14
    have hg := goOn_any (CN.at (CN.a.putEp (S.r t)) (St.ok_ep CN.ok (CN.ok.r t)))
    go_wp2_with fail
    refine hg.mono ?_
    rintro e w2 ⟨rfl, A2, T2⟩
    go_wp2
    go_ret
    exact ⟨rfl, A2, (KN.put _ _).trans T2 (fun _ _ h => h)⟩
  have X : toP S t d = (10, S) := by unfold toP; rw [if_neg h11, if_neg h12, if_neg h14]
  have b11 := nk h11
  have b12 := nk h12
  have b14 := nk h14
  go_wp2
  go_ret
  rw [X]
  exact ⟨rfl, CN.a, KN⟩
set_option maxHeartbeats 8000000 in
theorem back_any (c : Cp w pb sb bb S k s t d m) : Calls Tryd.prog 86 #[.pointer (some ⟨pb, 0, none⟩)] w fun e w' => e = .returned (.int .i64 (backP S).1) ∧ StAt w' sb (backP S).2 ∧ Kept w w' (· = sb) := by
  have CH : Hid (Cp w pb sb bb S k s t d m) := c
  have p0 := c.p.p0
  obtain ⟨_, _, _, _, q36, q37, _, q39, _, _, _⟩ := c.a.told
  clear c
  by_cases h1 : bits .and .u32 S.st 2 = 0
  · have X : backP S = (10, S) := by unfold backP; rw [if_pos (Or.inl h1)]
    rw [X]
    have b1 : (bits .and .u32 S.st 2 == 0) = true := by simpa using h1
    go_enter Tryd.func86, Tryd.ntmps86
    go_wp2
    go_ret
    exact ⟨rfl, CH.out.a, Kept.refl _ _⟩
  · have b1 : (bits .and .u32 S.st 2 == 0) = false := by simpa using h1
    cases hsl : S.sl with
    | true =>
      have X : backP S = (10, S) := by unfold backP; rw [if_pos (Or.inr hsl)]
      rw [X]
      rw [hsl] at q36
      go_enter Tryd.func86, Tryd.ntmps86
      go_wp2
      go_ret
      exact ⟨rfl, CH.out.a, Kept.refl _ _⟩
    | false =>
      have X : backP S = (-1, { S.jump S.ep with st := bits .andNot .u32 S.st 2 }) := by unfold backP; rw [if_neg (by simp [h1, hsl])]
      rw [X]
      rw [hsl] at q36
      clear X h1
      go_enter Tryd.func86, Tryd.ntmps86
      go_wp2_with fail
      refine (jump_any CH.out S.ep CH.out.ok.ep).mono ?_
      rintro e w1 ⟨rfl, A1, T1⟩
      have c1 := CH.out.turn T1 A1 (St.jump_ok CH.out.ok CH.out.ok.ep)
      clear p0 q36 q37 q39
      have p0 := c1.p.p0
      have q37 : w1.cell? ⟨sb, 37, none⟩ = some (.int .u32 S.st) := A1.told.2.2.2.2.2.1
      have f37 := A1.fz 37
      go_wp2
      go_ret
      exact ⟨rfl, A1.putSt _, T1.put _ _⟩
set_option maxHeartbeats 8000000 in
theorem trap_any (c : Cp w pb sb bb S k s t d m) : Calls Tryd.prog 64 #[.pointer (some ⟨pb, 0, none⟩)] w fun e w' => e = .returned (.int .i64 (trapP S k t d).1) ∧ StAt w' sb (trapP S k t d).2 ∧ Kept w w' (· = sb) := by
  have hf := from_any c
  have ht := to_any c
  have hb := back_any c
  have A := c.a
  have p1 := c.p.p1
  clear c
  by_cases h9 : k = 9
  · subst h9
    go_enter Tryd.func64, Tryd.ntmps64
    go_wp2
    go_ret
    exact ⟨rfl, A, Kept.refl _ _⟩
  by_cases h10 : k = 10
  · subst h10
    go_enter Tryd.func64, Tryd.ntmps64
    go_wp2
    go_ret
    exact ⟨rfl, A, Kept.refl _ _⟩
  by_cases h43 : k = 43
  · subst h43
    go_enter Tryd.func64, Tryd.ntmps64
    go_wp2_with fail
    refine hf.mono ?_
    rintro e w1 ⟨rfl, A1, T1⟩
    go_wp2
    go_ret
    exact ⟨rfl, A1, T1⟩
  by_cases h44 : k = 44
  · subst h44
    go_enter Tryd.func64, Tryd.ntmps64
    go_wp2_with fail
    refine ht.mono ?_
    rintro e w1 ⟨rfl, A1, T1⟩
    go_wp2
    go_ret
    exact ⟨rfl, A1, T1⟩
  by_cases h45 : k = 45
  · subst h45
    go_enter Tryd.func64, Tryd.ntmps64
    go_wp2_with fail
    refine hb.mono ?_
    rintro e w1 ⟨rfl, A1, T1⟩
    go_wp2
    go_ret
    exact ⟨rfl, A1, T1⟩
  have X : trapP S k t d = (10, S) := by unfold trapP; rw [if_neg h9, if_neg h10, if_neg h43, if_neg h44, if_neg h45]
  rw [X]
  have b9 := nk h9
  have b10 := nk h10
  have b43 := nk h43
  have b44 := nk h44
  have b45 := nk h45
  clear h9 h10 h43 h44 h45 X hf ht hb
  go_enter Tryd.func64, Tryd.ntmps64
  go_wp2
  go_ret
  exact ⟨rfl, A, Kept.refl _ _⟩
end
end Go.Proofs.YtckcbnfobjmhpaaDoor
