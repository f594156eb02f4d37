/-
  A step, and steps.
-/
import Derived.Test.YtckcbnfobjmhpaaDoorQDo
namespace Go.Proofs.YtckcbnfobjmhpaaDoor
open Go.RowKit Go.Maps
open Num
set_option linter.unusedVariables false
/-- what every instruction leaves as it is, and what it answers -/
structure Plain (S : St) (b : Bs) (x : Int × St × Bs) : Prop where
  ct : x.2.1.ct = S.ct
  code : x.1 = -1 ∨ (0 ≤ x.1 ∧ x.1 < 32)
  lamp : u32 b.lamp → u32 x.2.2.lamp
  out : x.2.2.out.length ≤ b.out.length + 1
  tr : x.2.2.tr.length ≤ b.tr.length + 1
theorem set_ct (S : St) (n : Nat) (v : Int) : (S.set n v).ct = S.ct := by unfold St.set; split <;> rfl
theorem branchP_ct (S : St) (k s t d : Nat) (m : Int) : (branchP S k s t d m).2.ct = S.ct ∧ ((branchP S k s t d m).1 = -1 ∨ (0 ≤ (branchP S k s t d m).1 ∧ (branchP S k s t d m).1 < 32)) := by
  unfold branchP
  split
  · exact ⟨rfl, Or.inr ⟨by show (0 : Int) ≤ 10; omega, by show (10 : Int) < 32; omega⟩⟩
  · refine ⟨?_, Or.inl rfl⟩
    show St.ct (if k = 30 then S.set 31 _ else if k = 8 then S.set d _ else S) = S.ct
    split
    · exact set_ct _ _ _
    split
    · exact set_ct _ _ _
    · rfl
theorem code_in {x : Int} (h : x = -1 ∨ x = 8 ∨ x = 9 ∨ x = 10 ∨ x = 12 ∨ x = 4 ∨ x = 5 ∨ x = 0) : x = -1 ∨ (0 ≤ x ∧ x < 32) := by omega
theorem trapP_ct (S : St) (k t d : Nat) : (trapP S k t d).2.ct = S.ct ∧ ((trapP S k t d).1 = -1 ∨ (trapP S k t d).1 = 8 ∨ (trapP S k t d).1 = 9 ∨ (trapP S k t d).1 = 10) := by
  have hf : (fromP S t d).2.ct = S.ct ∧ ((fromP S t d).1 = -1 ∨ (fromP S t d).1 = 10) := by
    unfold fromP; (repeat' split) <;> first | exact ⟨set_ct _ _ _, Or.inl rfl⟩ | exact ⟨rfl, Or.inr rfl⟩
  have ht : (toP S t d).2.ct = S.ct ∧ ((toP S t d).1 = -1 ∨ (toP S t d).1 = 10) := by
    unfold toP; (repeat' split) <;> first | exact ⟨rfl, Or.inl rfl⟩ | exact ⟨rfl, Or.inr rfl⟩
  have hb : (backP S).2.ct = S.ct ∧ ((backP S).1 = -1 ∨ (backP S).1 = 10) := by
    unfold backP; split <;> first | exact ⟨rfl, Or.inl rfl⟩ | exact ⟨rfl, Or.inr rfl⟩
  unfold trapP
  split
  · exact ⟨rfl, by simp⟩
  split
  · exact ⟨rfl, by simp⟩
  split
  · exact ⟨hf.1, by rcases hf.2 with h | h <;> simp [h]⟩
  split
  · exact ⟨ht.1, by rcases ht.2 with h | h <;> simp [h]⟩
  split
  · exact ⟨hb.1, by rcases hb.2 with h | h <;> simp [h]⟩
  · exact ⟨rfl, by simp⟩
theorem sumP_ct (S : St) (k s t d : Nat) (m : Int) : (sumP S k s t d m).2.ct = S.ct ∧ ((sumP S k s t d m).1 = -1 ∨ (sumP S k s t d m).1 = 12) := by
  unfold sumP
  split
  · exact ⟨rfl, Or.inl rfl⟩
  split
  · refine ⟨?_, Or.inl rfl⟩
    dsimp only
    split <;> rfl
  split
  · exact ⟨rfl, Or.inl rfl⟩
  split
  · exact ⟨rfl, Or.inl rfl⟩
  split
  · exact ⟨rfl, Or.inr rfl⟩
  · exact ⟨set_ct _ _ _, Or.inl rfl⟩
theorem insP_plain {S : St} (o : S.ok) (b : Bs) (k s t d : Nat) (m : Int) : Plain S b (insP S b k s t d m) := by
  unfold insP
  split
  · have h := branchP_ct S k s t d m
    exact ⟨h.1, h.2, id, Nat.le_succ _, Nat.le_succ _⟩
  split
  · split
    · exact ⟨rfl, code_in (by simp), id, Nat.le_succ _, Nat.le_succ _⟩
    · exact ⟨set_ct _ _ _, Or.inl rfl, fun h => by show u32 (b.got _ _ _).lamp; unfold Bs.got; split <;> exact h, by show (b.got _ _ _).out.length ≤ _; rw [b.got_out]; omega, b.got_tr _ _ _⟩
  split
  · split
    · exact ⟨rfl, code_in (by simp), id, Nat.le_succ _, Nat.le_succ _⟩
    · refine ⟨rfl, Or.inl rfl, fun h => ?_, b.put_out _ _ _ _, b.put_tr _ _ _ _⟩
      show u32 (b.put _ _ _ _).lamp
      unfold Bs.put
      split
      · show u32 (lampN _ _ _)
        unfold lampN
        split
        · exact o.r t
        · exact h
      split
      · exact h
      · exact h
  split
  · have h := trapP_ct S k t d
    exact ⟨h.1, code_in (by rcases h.2 with h | h | h | h <;> simp [h]), id, Nat.le_succ _, Nat.le_succ _⟩
  · have h := sumP_ct S k s t d m
    exact ⟨h.1, code_in (by rcases h.2 with h | h <;> simp [h]), id, Nat.le_succ _, Nat.le_succ _⟩
theorem doP_plain {S : St} (o : S.ok) (b : Bs) : Plain S b (doC S b) := by
  unfold doC
  split
  · exact ⟨rfl, code_in (by simp), id, Nat.le_succ _, Nat.le_succ _⟩
  split
  · exact ⟨rfl, code_in (by simp), id, Nat.le_succ _, Nat.le_succ _⟩
  · exact insP_plain o b _ _ _ _ _
theorem excP_ct (S : St) (e : Int) : (excP S e).ct = S.ct := by unfold excP exc1; dsimp only [St.jump]; split <;> (try split) <;> rfl
theorem excP_ok {S : St} (o : S.ok) (e : Int) : (excP S e).ok := by
  have h1 : (exc1 S).ok := by
    unfold exc1
    split
    · split
      · exact St.ok_ec o (lo_bd _) ⟨by omega, by omega⟩
      · exact St.ok_ec o o.pc ⟨by omega, by omega⟩
    · exact o
  unfold excP
  exact St.jump_ok (St.ok_st (St.ok_ca h1 (or_bd (andNot_bd h1.ca ⟨by omega, by omega⟩) (sh4_bd e))) (or_bd o.st ⟨by omega, by omega⟩)) ⟨by omega, by omega⟩
theorem St.ok_ctr {S : St} (o : S.ok) {y : Int} (h0 : -9223372036854775808 ≤ y) (h1 : y < 9223372036854775807) : St.ok { S with ct := y } := ⟨o.r, o.hi, o.lo, o.pc, o.nx, o.st, o.ca, o.ep, o.bd, o.cm, h0, h1⟩
/-- a state and a bus that came to be behind a world, apart from one another -/
structure Mach (w0 w : World) (base sb bb rb bp bw bh N : Nat) (S : St) (b : Bs) (vo vt : Value) : Prop where
  a : StAt w sb S
  ok : S.ok
  B : BusIs w base bb rb bp bw bh N b.m F0 F0 b.out b.lamp b.tr vo vt
  lamp : u32 b.lamp
  lt : sb < base
  s1 : sb ≠ bb
  s2 : sb ≠ rb
  s3 : sb ≠ bp
  s4 : sb ≠ bw
  s5 : sb ≠ bh
  be : Below w0.heap.size w0 w
  l0 : w0.heap.size ≤ sb
  l1 : w0.heap.size ≤ bb
  l2 : w0.heap.size ≤ bp
  l3 : w0.heap.size ≤ bh
section
variable {w0 w : World} {base sb bb rb bp bw bh N : Nat} {S : St} {b : Bs} {vo vt : Value}
theorem Mach.stays {w' : World} (M : Mach w0 w base sb bb rb bp bw bh N S b vo vt) (h : Below w.heap.size w w') : Mach w0 w' base sb bb rb bp bw bh N S b vo vt :=
  ⟨M.a.stays h, M.ok, M.B.stays h, M.lamp, M.lt, M.s1, M.s2, M.s3, M.s4, M.s5, M.be.trans (h.mono M.be.size), M.l0, M.l1, M.l2, M.l3⟩
/-- what stays of a machine while another one steps -/
theorem Mach.kept {w' : World} {X : Nat → Prop} (M : Mach w0 w base sb bb rb bp bw bh N S b vo vt) (h : Kept w w' X) (h0 : ¬ X sb) (hx : ∀ k, (k = bb ∨ k = rb ∨ k = bp ∨ k = bw ∨ k = bh ∨ vo.ownBlock = some k ∨ vt.ownBlock = some k) → ¬ X k) (hl : ∀ k, k < w0.heap.size → ¬ X k) : Mach w0 w' base sb bb rb bp bw bh N S b vo vt :=
  ⟨M.a.kept h h0, M.ok, M.B.keptX h hx, M.lamp, M.lt, M.s1, M.s2, M.s3, M.s4, M.s5, h.below M.be (Nat.le_refl _) hl, M.l0, M.l1, M.l2, M.l3⟩
theorem can_any (M : Mach w0 w base sb bb rb bp bw bh N S b vo vt) : Calls Tryd.prog 34 #[.pointer (some ⟨sb, 0, none⟩), .pointer (some ⟨bb, 0, none⟩)] w fun e w' => e = .returned (.bool true) ∧ w' = w := by
  have h := ramOf_any M.B
  clear M
  go_enter Tryd.func34, Tryd.ntmps34
  go_wp2_with (go_at_call 17; refine h.mono ?_; rintro e w' ⟨rfl, rfl⟩)
  go_ret
  exact ⟨rfl, rfl⟩
set_option maxHeartbeats 8000000 in
theorem step_any (ps pa pf pk pn : Addr) (E : Er ps pa pf w0) (T : K.Tb pk pn w0) (M : Mach w0 w base sb bb rb bp bw bh N S b vo vt) (hn0 : b.out.length ≤ 1000) (hn : b.tr.length ≤ 1000) (hN : N + 1 < maxLen) (hct : S.ct + 1 < 9223372036854775807) :
    Calls Tryd.prog 20 #[.pointer (some ⟨sb, 0, none⟩), .pointer (some ⟨bb, 0, none⟩)] w fun e w' => e = .returned (.int .i64 (stepP S b).1) ∧ ∃ N' vo' vt', N' ≤ N + 2 ∧ Mach w0 w' base sb bb rb bp bw bh N' (stepP S b).2.1 (stepP S b).2.2 vo' vt' ∧ Kept w w' (XM sb bb bp bh vo vt) ∧ Moved w vo vo' ∧ Moved w vt vt' := by
  have MH : Hid (Mach w0 w base sb bb rb bp bw bh N S b vo vt) := M
  have hcan := can_any M
  have hP := doP_plain M.ok b
  have hsz := M.B.bs
  have h6 : 7 ≤ w.heap.size := by have h := World.block_lt_of_cell? _ _ E.f; have := M.be.size; simp only at h; omega
  have hal : Below w.heap.size w (w.alloc (.cells #[.pointer (some ⟨sb, 0, none⟩), .int .i64 0, .int .i64 0, .int .i64 0, .int .i64 0, .int .u32 0, .pointer (some ⟨bb, 0, none⟩)] 91)) := (Below.refl _ _).alloc (Nat.le_refl _) _
  have MA := M.stays hal
  have hlts : sb < w.heap.size := M.a.lt
  have c : Cp (w.alloc (.cells #[.pointer (some ⟨sb, 0, none⟩), .int .i64 0, .int .i64 0, .int .i64 0, .int .i64 0, .int .u32 0, .pointer (some ⟨bb, 0, none⟩)] 91)) w.heap.size sb bb S 0 0 0 0 0 :=
    ⟨⟨by simp, by simp, by simp, by simp, by simp, by simp, by simp⟩, MA.a, M.ok, by omega, by omega, by omega, by omega, by omega, by omega⟩
  have hlow : ∀ k, (k = bb ∨ k = rb ∨ k = bp ∨ k = bw ∨ k = bh ∨ vo.ownBlock = some k ∨ vt.ownBlock = some k) → ¬ k = w.heap.size := fun k hk e => by have := M.B.lt hk; omega
  have ap : Ap w.heap.size sb base bb rb bp bw bh vo vt := ⟨M.lt, M.s1, M.s2, M.s3, M.s4, M.s5, fun e => hlow bb (by simp) e.symm, fun e => hlow bp (by simp) e.symm, fun e => hlow bh (by simp) e.symm, fun e => hlow _ (by simp [e]) rfl, fun e => hlow _ (by simp [e]) rfl⟩
  have hdo := doC_any ps pa pf pk pn (E.stays MA.be) (T.stays MA.be (Nat.le_refl _)) c MA.B ap hlow M.lamp hn0 hn hN h6 (fun j => by simp)
  have hfin : stepP S b = ((doC S b).1, { (if (doC S b).1 = -1 then (doC S b).2.1 else excP (doC S b).2.1 (doC S b).1) with ct := S.ct + 1 }, (doC S b).2.2) := by unfold stepP; rw [hP.ct]
  have hc0 := M.ok.c0
  clear M E T c MA ap
  generalize doC S b = D at *
  go_enter Tryd.func20, Tryd.ntmps20
  go_wp2_with (go_at_call 34; refine hcan.mono ?_; rintro e w' ⟨rfl, hw'⟩; rw [hw']; clear hw' w')
  refine hdo.mono ?_
  rintro e w2 ⟨rfl, ⟨k, s, t, d, m, N', vo', vt', hN', C2, B2, K2, M1, M2⟩⟩
  clear hdo hcan
  have K0 : Kept w w2 (XM sb bb bp bh vo vt) := (Kept.of_below _ hal).trans K2 (fun k hk h => h.elim (fun e => absurd e (by omega)) id)
  have mv : ∀ {x y : Value}, Moved (w.alloc (.cells #[.pointer (some ⟨sb, 0, none⟩), .int .i64 0, .int .i64 0, .int .i64 0, .int .i64 0, .int .u32 0, .pointer (some ⟨bb, 0, none⟩)] 91)) x y → Moved w x y := fun h k hk => (h k hk).imp id (fun h => by simp at h; omega)
  have fin : ∀ (w5 : World) (S5 : St), StAt w5 sb S5 → S5.ok → Kept w2 w5 (· = sb) → S5 = { (if D.1 = -1 then D.2.1 else excP D.2.1 D.1) with ct := S.ct + 1 } → (Ending.returned (.int .i64 D.1) = .returned (.int .i64 (stepP S b).1) ∧ ∃ N' vo' vt', N' ≤ N + 2 ∧ Mach w0 w5 base sb bb rb bp bw bh N' (stepP S b).2.1 (stepP S b).2.2 vo' vt' ∧ Kept w w5 (XM sb bb bp bh vo vt) ∧ Moved w vo vo' ∧ Moved w vt vt') := by
    intro w5 S5 A5 o5 T5 e5
    have K5 : Kept w w5 (XM sb bb bp bh vo vt) := K0.trans T5.xm_st (fun _ _ h => h)
    rw [hfin]
    refine ⟨rfl, N', vo', vt', hN', ⟨by rw [← e5]; exact A5, by rw [← e5]; exact o5, B2.st T5 MH.out.lt MH.out.s1 MH.out.s2 MH.out.s3 MH.out.s4 MH.out.s5, hP.lamp MH.out.lamp, MH.out.lt, MH.out.s1, MH.out.s2, MH.out.s3, MH.out.s4, MH.out.s5, K5.below MH.out.be (Nat.le_refl _) (fun k hk hx => ?_), MH.out.l0, MH.out.l1, MH.out.l2, MH.out.l3⟩, K5, mv M1, mv M2⟩
    have q0 := MH.out.l0; have q1 := MH.out.l1; have q2 := MH.out.l2; have q3 := MH.out.l3
    have q5 := MH.out.lt
    rcases hx with h | h | h | h | h | h
    · omega
    · omega
    · omega
    · omega
    · have := (MH.out.B.ro.lt _ h).1; omega
    · have := (MH.out.B.rt.lt _ h).1; omega
  have hct2 := hP.ct
  by_cases he : D.1 = -1
  · have p0 := C2.p.p0
    have q42 := C2.a.told.2.2.2.2.2.2.2.2.2.2
    rw [hct2] at q42
    have f42 := C2.a.fz 42
    have hb : (D.1 != -1) = false := by simp [he]
    have F := fin _ _ (C2.a.putCt (S.ct + 1)) (St.ok_ctr C2.ok (by omega) hct) ((Kept.refl w2 _).put 42 _) (by rw [if_pos he])
    rw [he] at F
    clear fin
    go_wp2
    go_ret
    exact F
  · have hcode : 0 ≤ D.1 ∧ D.1 < 32 := hP.code.resolve_left he
    have hb : (D.1 != -1) = true := by simpa using he
    have hx := except_any C2 D.1 hcode.1 hcode.2
    go_wp2_with fail
    refine hx.mono ?_
    rintro e w3 ⟨rfl, A3, T3⟩
    have C3 := C2.turn T3 A3 (excP_ok C2.ok D.1)
    have p0 := C3.p.p0
    have q42 := A3.told.2.2.2.2.2.2.2.2.2.2
    rw [excP_ct, hct2] at q42
    have f42 := A3.fz 42
    have F := fin _ _ (A3.putCt (S.ct + 1)) (St.ok_ctr C3.ok (by omega) hct) (T3.put 42 _) (by rw [if_neg he])
    clear fin hx
    go_wp2
    go_ret
    exact F
/-- a new state -/
def St.new (pc : Int) : St := ⟨fun _ => 0, 0, 0, pc, Num.lo (pc + 4), false, 0, 0, 0, 0, 0, 0⟩
theorem St.new_ok {pc : Int} (h : u32 pc) : (St.new pc).ok := ⟨fun _ => ⟨by show (0:Int) ≤ 0; omega, by show (0:Int) < _; omega⟩, ⟨by show (0:Int) ≤ 0; omega, by show (0:Int) < _; omega⟩, ⟨by show (0:Int) ≤ 0; omega, by show (0:Int) < _; omega⟩, h, lo_bd _, ⟨by show (0:Int) ≤ 0; omega, by show (0:Int) < _; omega⟩, ⟨by show (0:Int) ≤ 0; omega, by show (0:Int) < _; omega⟩, ⟨by show (0:Int) ≤ 0; omega, by show (0:Int) < _; omega⟩, ⟨by show (0:Int) ≤ 0; omega, by show (0:Int) < _; omega⟩, ⟨by show (0:Int) ≤ 0; omega, by show (0:Int) < _; omega⟩, by show _ ≤ (0:Int); omega, by show (0:Int) < _; omega⟩
set_option maxRecDepth 100000 in
set_option maxHeartbeats 4000000 in
theorem newSt_any (pc : Int) (h : u32 pc) (w : World) : Calls Tryd.prog 10 #[.int .u32 pc] w fun e w' => ∃ sb, e = .returned (.pointer (some ⟨sb, 0, none⟩)) ∧ StAt w' sb (St.new pc) ∧ Below w.heap.size w w' ∧ w.heap.size ≤ sb := by
  obtain ⟨h0, h1⟩ := h
  go_enter Tryd.func10, Tryd.ntmps10
  go_wp2
  go_ret
  refine ⟨w.heap.size, rfl, ⟨fun j hj => ?_, fun j => by simp⟩, (Below.refl _ _).alloc (Nat.le_refl _) _, Nat.le_refl _⟩
  have hj' : j = 0 ∨ j = 1 ∨ j = 2 ∨ j = 3 ∨ j = 4 ∨ j = 5 ∨ j = 6 ∨ j = 7 ∨ j = 8 ∨ j = 9 ∨ j = 10 ∨ j = 11 ∨ j = 12 ∨ j = 13 ∨ j = 14 ∨ j = 15 ∨ j = 16 ∨ j = 17 ∨ j = 18 ∨ j = 19 ∨ j = 20 ∨ j = 21 ∨ j = 22 ∨ j = 23 ∨ j = 24 ∨ j = 25 ∨ j = 26 ∨ j = 27 ∨ j = 28 ∨ j = 29 ∨ j = 30 ∨ j = 31 ∨ j = 32 ∨ j = 33 ∨ j = 34 ∨ j = 35 ∨ j = 36 ∨ j = 37 ∨ j = 38 ∨ j = 39 ∨ j = 40 ∨ j = 41 ∨ j = 42 := by omega
  clear hj
  rcases hj' with rfl | rfl | rfl | rfl | rfl | rfl | rfl | rfl | rfl | rfl | rfl | rfl | rfl | rfl | rfl | rfl | rfl | rfl | rfl | rfl | rfl | rfl | rfl | rfl | rfl | rfl | rfl | rfl | rfl | rfl | rfl | rfl | rfl | rfl | rfl | rfl | rfl | rfl | rfl | rfl | rfl | rfl | rfl <;> simp [stV, St.new, Num.lo]
end
end Go.Proofs.YtckcbnfobjmhpaaDoor
/-
  Steps, one behind the other; the closed fact.
-/
namespace Go.Proofs.YtckcbnfobjmhpaaDoor
open Go.RowKit Go.Maps
open Num
set_option linter.unusedVariables false
def runP : Nat → St → Bs → St × Bs
  | 0, S, b => (S, b)
  | n + 1, S, b => ((stepP (runP n S b).1 (runP n S b).2).2.1, (stepP (runP n S b).1 (runP n S b).2).2.2)
theorem runP_add (S : St) (b : Bs) (a : Nat) : ∀ c, runP (a + c) S b = runP c (runP a S b).1 (runP a S b).2
  | 0 => rfl
  | c + 1 => by show runP (a + c + 1) S b = _; simp only [runP]; rw [runP_add S b a c]
theorem stepP_ct {S : St} (o : S.ok) (b : Bs) : (stepP S b).2.1.ct = S.ct + 1 := by show (doC S b).2.1.ct + 1 = _; rw [(doP_plain o b).ct]
theorem stepP_out {S : St} (o : S.ok) (b : Bs) : (stepP S b).2.2.out.length ≤ b.out.length + 1 ∧ (stepP S b).2.2.tr.length ≤ b.tr.length + 1 := ⟨(doP_plain o b).out, (doP_plain o b).tr⟩
theorem XM_moved {w : World} {sb bb bp bh : Nat} {vo vt vo' vt' : Value} (h1 : Moved w vo vo') (h2 : Moved w vt vt') (k : Nat) (hk : k < w.heap.size) (h : XM sb bb bp bh vo' vt' k) : XM sb bb bp bh vo vt k := by
  rcases h with h | h | h | h | h | h
  · exact Or.inl h
  · exact Or.inr (Or.inl h)
  · exact Or.inr (Or.inr (Or.inl h))
  · exact Or.inr (Or.inr (Or.inr (Or.inl h)))
  · rcases h1 k h with e | e
    · exact Or.inr (Or.inr (Or.inr (Or.inr (Or.inl e))))
    · omega
  · rcases h2 k h with e | e
    · exact Or.inr (Or.inr (Or.inr (Or.inr (Or.inr e))))
    · omega
/-- what holds between two steps -/
structure RunAt (w0 w wr : World) (base sb bb rb bp bw bh N : Nat) (S : St) (b : Bs) (vo vt : Value) (j : Nat) : Prop where
  h : ∃ N' vo' vt', N' ≤ N + 2 * j ∧ Mach w0 wr base sb bb rb bp bw bh N' (runP j S b).1 (runP j S b).2 vo' vt' ∧ Kept w wr (XM sb bb bp bh vo vt) ∧ Moved w vo vo' ∧ Moved w vt vt'
  o : (runP j S b).2.out.length ≤ b.out.length + j
  t : (runP j S b).2.tr.length ≤ b.tr.length + j
  c : (runP j S b).1.ct = S.ct + j
section
variable {w0 w : World} {base sb bb rb bp bw bh N : Nat} {S : St} {b : Bs} {vo vt : Value}
set_option maxHeartbeats 8000000 in
theorem run_any (ps pa pf pk pn : Addr) (E : Er ps pa pf w0) (T : K.Tb pk pn w0) (M : Mach w0 w base sb bb rb bp bw bh N S b vo vt) (n : Nat) (hn : n ≤ 400) (hn0 : b.out.length ≤ 500) (hn1 : b.tr.length ≤ 500) (hN : N ≤ 1000000) (hc0 : 0 ≤ S.ct) (hct : S.ct ≤ 2000000000000) :
    Calls Tryd.prog 12 #[.pointer (some ⟨sb, 0, none⟩), .pointer (some ⟨bb, 0, none⟩), .int .i64 n] w fun e w' => e = .returned (.int .i64 n) ∧ RunAt w0 w w' base sb bb rb bp bw bh N S b vo vt n := by
  have hcan := can_any M
  have R0 : RunAt w0 w w base sb bb rb bp bw bh N S b vo vt 0 := ⟨⟨N, vo, vt, by omega, M, Kept.refl _ _, Moved.refl _ _, Moved.refl _ _⟩, by show b.out.length ≤ _; omega, by show b.tr.length ≤ _; omega, by show S.ct = _; omega⟩
  have EH : Hid (Er ps pa pf w0) := E
  have TH : Hid (K.Tb pk pn w0) := T
  clear M E T
  have hn' : (n : Int) ≤ 400 := by omega
  go_enter Tryd.func12, Tryd.ntmps12
  go_wp2_with (go_at_call 34; refine hcan.mono ?_; rintro e w' ⟨rfl, hw'⟩; rw [hw']; clear hw' w')
  clear hcan
  go_loopw [18] (fun iv wr => ∃ j : Nat, j ≤ n ∧ iv = .int .i64 j ∧ RunAt w0 w wr base sb bb rb bp bw bh N S b vo vt j) (fun iv _ => n - (intOf iv).toNat)
  case atStart => exact ⟨0, by omega, rfl, R0⟩
  case round =>
    clear R0
    obtain ⟨j, hj, rfl, R⟩ := hrel
    by_cases hlt : j < n
    · have hlt' : (j : Int) < n := by omega
      obtain ⟨⟨N', vo', vt', hN', M, K, M1, M2⟩, ho, ht, hc⟩ := R
      have hs := step_any ps pa pf pk pn EH.out TH.out M (by omega) (by omega) (by unfold maxLen; omega) (by omega)
      have hso := stepP_out M.ok (runP j S b).2
      have hsc := stepP_ct M.ok (runP j S b).2
      go_wp2_with fail
      refine hs.mono ?_
      rintro e w2 ⟨rfl, N2, vo2, vt2, hN2, M2', K2, M3, M4⟩
      have R2 : RunAt w0 w w2 base sb bb rb bp bw bh N S b vo vt (j + 1) := by
        refine ⟨⟨N2, vo2, vt2, by omega, M2', K.trans K2 (XM_moved M1 M2), M1.trans M3 K.size, M2.trans M4 K.size⟩, ?_, ?_, ?_⟩
        · show (stepP _ _).2.2.out.length ≤ _; omega
        · show (stepP _ _).2.2.tr.length ≤ _; omega
        · show (stepP _ _).2.1.ct = _; rw [hsc, hc]; omega
      clear hs M M2' K K2 M1 M2 M3 M4
      go_wp2
      go_roundw
      case rel => exact ⟨j + 1, by omega, by go_num, R2⟩
      case measure => simp [intOf]; omega
    · have hlt' : ¬ (j : Int) < n := by omega
      obtain rfl : j = n := by omega
      go_wp2
      go_ret
      exact ⟨ret_int (by omega), R⟩
theorem run_none (M : Mach w0 w base sb bb rb bp bw bh N S b vo vt) : Calls Tryd.prog 12 #[.pointer (some ⟨sb, 0, none⟩), .pointer (some ⟨bb, 0, none⟩), .int .i64 (-1)] w fun e w' => e = .returned (.int .i64 0) ∧ w' = w := by
  have hcan := can_any M
  clear M
  go_enter Tryd.func12, Tryd.ntmps12
  go_wp2_with (go_at_call 34; refine hcan.mono ?_; rintro e w' ⟨rfl, rfl⟩)
  go_ret
  exact ⟨rfl, rfl⟩
end
set_option maxRecDepth 100000 in
set_option maxHeartbeats 1000000 in
theorem newBus_all {w : World} {v : Value} {xs : List Int} (X : WordsIn w v xs) (hx : xs.length ≤ 5000) :
    Calls Tryd.prog 11 #[v] w fun e w' => ∃ bb sb bp bw bh : Nat, e = .returned (.pointer (some ⟨bb, 0, none⟩)) ∧ NewBus w' bb sb bp bw bh xs ∧ Below w.heap.size w w' ∧ (w.heap.size ≤ bb ∧ w.heap.size ≤ sb ∧ w.heap.size ≤ bp ∧ w.heap.size ≤ bw ∧ w.heap.size ≤ bh) := by
  have hnw := new_ex2 X hx
  clear X hx
  go_enter Tryd.func11, Tryd.ntmps11
  go_wp2_with fail
  refine hnw.mono ?_
  rintro e w1 ⟨sb, bp, bw, bh, rfl, R, hb, l1, l2, l3, l4⟩
  clear hnw
  go_wp2
  go_ret
  have hA : Below w1.heap.size w1 (w1.alloc (.cells #[.pointer (some ⟨sb, 0, none⟩), .slice none 0 0, .int .u32 0, .slice none 0 0] 73)) := (Below.refl _ _).alloc (Nat.le_refl _) _
  have l := R.lt
  have hz := hb.size
  exact ⟨w1.heap.size, sb, bp, bw, bh, rfl, ⟨by simp, by simp, by simp, by simp, fun j => by simp, R.stays hA (Nat.le_refl _), by omega, by omega, by omega, by omega⟩, hb.trans (hA.mono hz), hz, l1, l2, l3, l4⟩
/-- a new state and a new bus -/
theorem mach_new {w0 w1 w2 : World} {sb bb rb bp bw bh : Nat} {pc : Int} {xs : List Int} (hpc : u32 pc) (b1 : Below w0.heap.size w0 w1) (A : StAt w1 sb (St.new pc)) (l0 : w0.heap.size ≤ sb) (NB : NewBus w2 bb rb bp bw bh xs) (b2 : Below w1.heap.size w1 w2) (lb : w1.heap.size ≤ bb ∧ w1.heap.size ≤ rb ∧ w1.heap.size ≤ bp ∧ w1.heap.size ≤ bw ∧ w1.heap.size ≤ bh) :
    Mach w0 w2 w2.heap.size sb bb rb bp bw bh 64 (St.new pc) ⟨mw xs, [], 0, []⟩ (.slice none 0 0) (.slice none 0 0) := by
  have h := A.lt
  have z := b1.size
  have z2 := b2.size
  exact ⟨A.stays b2, St.new_ok hpc, NB.is, ⟨by show (0:Int) ≤ 0; omega, by show (0:Int) < _; omega⟩, by omega, by omega, by omega, by omega, by omega, by omega, b1.trans (b2.mono b1.size), l0, by omega, by omega, by omega⟩

/-! the closed fact -/
def stepB : Bs := ⟨mw [604045319], [], 0, []⟩
theorem step_ld : ld (mw [604045319]) 0 4 false = 604045319 := by decide +kernel
theorem step_dec : decK 604045319 = 36 := by decide +kernel
theorem step_do : doC (St.new 0) stepB = (-1, ((St.new 0).set 1 7).on, stepB) := by
  unfold doC
  rw [if_neg (by decide), if_neg (by decide)]
  show insP (St.new 0) stepB (decK (ld (mw [604045319]) 0 4 false)) (Tab.xs (Tab.sh (decK (ld (mw [604045319]) 0 4 false))) (ld (mw [604045319]) 0 4 false)).toNat (Tab.xt (Tab.sh (decK (ld (mw [604045319]) 0 4 false))) (ld (mw [604045319]) 0 4 false)).toNat (Tab.xd (Tab.sh (decK (ld (mw [604045319]) 0 4 false))) (ld (mw [604045319]) 0 4 false)).toNat (Tab.xm (Tab.sh (decK (ld (mw [604045319]) 0 4 false))) (ld (mw [604045319]) 0 4 false)) = _
  rw [step_ld, step_dec]
  rw [show (Tab.xs (Tab.sh 36) 604045319).toNat = 0 by decide +kernel, show (Tab.xt (Tab.sh 36) 604045319).toNat = 1 by decide +kernel, show (Tab.xd (Tab.sh 36) 604045319).toNat = 0 by decide +kernel, show Tab.xm (Tab.sh 36) 604045319 = 7 by decide +kernel]
  unfold insP
  rw [if_neg (by decide), if_neg (by decide), if_neg (by decide), if_neg (by decide)]
  unfold sumP
  rw [if_neg (by decide), if_neg (by decide), if_neg (by decide), if_neg (by decide), if_neg (by decide)]
  rfl
set_option maxRecDepth 100000 in
set_option maxHeartbeats 4000000 in
theorem stepped_any (ps pa pf pk pn : Addr) {w : World} (E : Er ps pa pf w) (T : K.Tb pk pn w) : Calls Tryd.prog 9 #[] w fun e w' => e = .returned (.bool true) ∧ Below w.heap.size w w' := by
  have EH : Hid (Er ps pa pf w) := E
  have TH : Hid (K.Tb pk pn w) := T
  clear E T
  go_enter Tryd.func9, Tryd.ntmps9
  go_wp2_with fail
  refine (newSt_any 0 ⟨by omega, by omega⟩ _).mono ?_
  rintro e w1 ⟨sb, rfl, A1, b1, l1⟩
  go_wp2_with fail
  have X : WordsIn (w1.alloc (.cells #[.int .u32 604045319] 23)) (.slice (some ⟨w1.heap.size, 0, none⟩) 1 1) [604045319] := by
    refine ⟨⟨_, 1, rfl, by simp, fun _ => ⟨w1.heap.size, 0, rfl, fun i hi => ?_⟩⟩, mw_wf _ (by simp)⟩
    have : i = 0 := by simp at hi; omega
    subst this
    simp
  have hA : Below w1.heap.size w1 (w1.alloc (.cells #[.int .u32 604045319] 23)) := (Below.refl _ _).alloc (Nat.le_refl _) _
  refine (newBus_all X (by simp)).mono ?_
  rintro e w2 ⟨bb, rb, bp, bw, bh, rfl, NB, b2, lb⟩
  have M := mach_new (w0 := w) ⟨by omega, by omega⟩ (b1.trans (hA.mono b1.size)) (A1.stays hA) l1 NB b2 lb
  have hs := step_any ps pa pf pk pn EH.out TH.out M (by simp) (by simp) (by unfold maxLen; omega) (by show (0:Int) + 1 < _; omega)
  clear X hA A1 b1 b2 NB lb l1
  go_wp2_with fail
  refine hs.mono ?_
  rintro e w3 ⟨rfl, N', vo', vt', hN', M3, K3, _, _⟩
  have hD := step_do
  have e1 : (stepP (St.new 0) ⟨mw [604045319], [], 0, []⟩).1 = -1 := by show (doC (St.new 0) stepB).1 = -1; rw [hD]
  have eS : (stepP (St.new 0) ⟨mw [604045319], [], 0, []⟩).2.1 = { ((St.new 0).set 1 7).on with ct := 1 } := by
    show ({ (if (doC (St.new 0) stepB).1 = -1 then (doC (St.new 0) stepB).2.1 else excP (doC (St.new 0) stepB).2.1 (doC (St.new 0) stepB).1) with ct := (doC (St.new 0) stepB).2.1.ct + 1 } : St) = _
    rw [hD]
    rfl
  have A3 := M3.a
  have be := M3.be
  rw [eS] at A3
  rw [e1]
  have q1 : w3.cell? ⟨sb, 1, none⟩ = some (.int .u32 7) := A3.reg (by omega)
  have q34 : w3.cell? ⟨sb, 34, none⟩ = some (.int .u32 4) := A3.told.2.2.1
  have q35 : w3.cell? ⟨sb, 35, none⟩ = some (.int .u32 8) := A3.told.2.2.2.1
  have q42 : w3.cell? ⟨sb, 42, none⟩ = some (.int .i64 1) := A3.told.2.2.2.2.2.2.2.2.2.2
  clear A3 M3 K3 M hs hD e1 eS
  go_wp2
  go_ret
  exact ⟨rfl, be⟩
end Go.Proofs.YtckcbnfobjmhpaaDoor
