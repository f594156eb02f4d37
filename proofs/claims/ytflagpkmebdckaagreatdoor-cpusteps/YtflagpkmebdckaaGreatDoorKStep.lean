/-
  A step, and steps.
-/
import Derived.Test.YtflagpkmebdckaaGreatDoorKSp
import Derived.Test.YtflagpkmebdckaaGreatDoorKDKb3
import Derived.Test.YtflagpkmebdckaaGreatDoorQKDecodeOf
import Derived.Test.YtflagpkmebdckaaGreatDoorQDo
import Derived.Test.YtflagpkmebdckaaGreatDoorQDKa
namespace Go.Proofs.YtflagpkmebdckaaGreatDoor
open Go.RowKit Go.Maps
open Num
set_option linter.unusedVariables false
/-- what every instruction leaves as it is, and what it answers -/
structure Plain (S : St) (b : Bs) (x : Int × St × Bs) : Prop where
  ct : x.2.1.ct = S.ct
  code : x.1 = -1 ∨ (0 ≤ x.1 ∧ x.1 < 32)
  lamp : u32 b.lamp → u32 x.2.2.lamp
  out : x.2.2.out.length ≤ b.out.length + 1
  tr : x.2.2.tr.length ≤ b.tr.length + 1
theorem set_ct (S : St) (n : Nat) (v : Int) : (S.set n v).ct = S.ct := by unfold St.set; split <;> rfl
theorem branchP_ct (S : St) (k s t d : Nat) (m : Int) : (branchP S k s t d m).2.ct = S.ct ∧ ((branchP S k s t d m).1 = -1 ∨ (0 ≤ (branchP S k s t d m).1 ∧ (branchP S k s t d m).1 < 32)) := by
  unfold branchP
  split
  · exact ⟨rfl, Or.inr ⟨by show (0 : Int) ≤ 10; omega, by show (10 : Int) < 32; omega⟩⟩
  · refine ⟨?_, Or.inl rfl⟩
    show St.ct (if k = 30 then S.set 31 _ else if k = 8 then S.set d _ else S) = S.ct
    split
    · exact set_ct _ _ _
    split
    · exact set_ct _ _ _
    · rfl
theorem code_in {x : Int} (h : x = -1 ∨ x = 8 ∨ x = 9 ∨ x = 10 ∨ x = 12 ∨ x = 4 ∨ x = 5 ∨ x = 0) : x = -1 ∨ (0 ≤ x ∧ x < 32) := by omega
theorem trapP_ct (S : St) (k t d : Nat) : (trapP S k t d).2.ct = S.ct ∧ ((trapP S k t d).1 = -1 ∨ (trapP S k t d).1 = 8 ∨ (trapP S k t d).1 = 9 ∨ (trapP S k t d).1 = 10) := by
  have hf : (fromP S t d).2.ct = S.ct ∧ ((fromP S t d).1 = -1 ∨ (fromP S t d).1 = 10) := by
    unfold fromP; (repeat' split) <;> first | exact ⟨set_ct _ _ _, Or.inl rfl⟩ | exact ⟨rfl, Or.inr rfl⟩
  have ht : (toP S t d).2.ct = S.ct ∧ ((toP S t d).1 = -1 ∨ (toP S t d).1 = 10) := by
    unfold toP; (repeat' split) <;> first | exact ⟨rfl, Or.inl rfl⟩ | exact ⟨rfl, Or.inr rfl⟩
  have hb : (backP S).2.ct = S.ct ∧ ((backP S).1 = -1 ∨ (backP S).1 = 10) := by
    unfold backP; split <;> first | exact ⟨rfl, Or.inl rfl⟩ | exact ⟨rfl, Or.inr rfl⟩
  unfold trapP
  split
  · exact ⟨rfl, by simp⟩
  split
  · exact ⟨rfl, by simp⟩
  split
  · exact ⟨hf.1, by rcases hf.2 with h | h <;> simp [h]⟩
  split
  · exact ⟨ht.1, by rcases ht.2 with h | h <;> simp [h]⟩
  split
  · exact ⟨hb.1, by rcases hb.2 with h | h <;> simp [h]⟩
  · exact ⟨rfl, by simp⟩
theorem sumP_ct (S : St) (k s t d : Nat) (m : Int) : (sumP S k s t d m).2.ct = S.ct ∧ ((sumP S k s t d m).1 = -1 ∨ (sumP S k s t d m).1 = 12) := by
  unfold sumP
  split
  · exact ⟨rfl, Or.inl rfl⟩
  split
  · refine ⟨?_, Or.inl rfl⟩
    dsimp only
    split <;> rfl
  split
  · exact ⟨rfl, Or.inl rfl⟩
  split
  · exact ⟨rfl, Or.inl rfl⟩
  split
  · exact ⟨rfl, Or.inr rfl⟩
  · exact ⟨set_ct _ _ _, Or.inl rfl⟩
theorem insP_plain {S : St} (o : S.ok) (b : Bs) (k s t d : Nat) (m : Int) : Plain S b (insP S b k s t d m) := by
  unfold insP
  split
  · have h := branchP_ct S k s t d m
    exact ⟨h.1, h.2, id, Nat.le_succ _, Nat.le_succ _⟩
  split
  · split
    · exact ⟨rfl, code_in (by simp), id, Nat.le_succ _, Nat.le_succ _⟩
    · exact ⟨set_ct _ _ _, Or.inl rfl, fun h => by show u32 (b.got _ _ _).lamp; unfold Bs.got; split <;> exact h, by show (b.got _ _ _).out.length ≤ _; rw [b.got_out]; omega, b.got_tr _ _ _⟩
  split
  · split
    · exact ⟨rfl, code_in (by simp), id, Nat.le_succ _, Nat.le_succ _⟩
    · refine ⟨rfl, Or.inl rfl, fun h => ?_, b.put_out _ _ _ _, b.put_tr _ _ _ _⟩
      show u32 (b.put _ _ _ _).lamp
      unfold Bs.put
      split
      · show u32 (lampN _ _ _)
        unfold lampN
        split
        · exact o.r t
        · exact h
      split
      · exact h
      · exact h
  split
  · have h := trapP_ct S k t d
    exact ⟨h.1, code_in (by rcases h.2 with h | h | h | h <;> simp [h]), id, Nat.le_succ _, Nat.le_succ _⟩
  · have h := sumP_ct S k s t d m
    exact ⟨h.1, code_in (by rcases h.2 with h | h <;> simp [h]), id, Nat.le_succ _, Nat.le_succ _⟩
theorem doP_plain {S : St} (o : S.ok) (b : Bs) : Plain S b (doC S b) := by
  unfold doC
  split
  · exact ⟨rfl, code_in (by simp), id, Nat.le_succ _, Nat.le_succ _⟩
  split
  · exact ⟨rfl, code_in (by simp), id, Nat.le_succ _, Nat.le_succ _⟩
  · exact insP_plain o b _ _ _ _ _
theorem excP_ct (S : St) (e : Int) : (excP S e).ct = S.ct := by unfold excP exc1; dsimp only [St.jump]; split <;> (try split) <;> rfl
theorem excP_ok {S : St} (o : S.ok) (e : Int) : (excP S e).ok := by
  have h1 : (exc1 S).ok := by
    unfold exc1
    split
    · split
      · exact St.ok_ec o (lo_bd _) ⟨by omega, by omega⟩
      · exact St.ok_ec o o.pc ⟨by omega, by omega⟩
    · exact o
  unfold excP
  exact St.jump_ok (St.ok_st (St.ok_ca h1 (or_bd (andNot_bd h1.ca ⟨by omega, by omega⟩) (sh4_bd e))) (or_bd o.st ⟨by omega, by omega⟩)) ⟨by omega, by omega⟩
theorem St.ok_ctr {S : St} (o : S.ok) {y : Int} (h0 : -9223372036854775808 ≤ y) (h1 : y < 9223372036854775807) : St.ok { S with ct := y } := ⟨o.r, o.hi, o.lo, o.pc, o.nx, o.st, o.ca, o.ep, o.bd, o.cm, h0, h1⟩
/-- a state and a bus that came to be behind a world, apart from one another -/
structure Mach (w0 w : World) (base sb bb rb bp bw bh N : Nat) (S : St) (b : Bs) (vo vt : Value) : Prop where
  a : StAt w sb S
  ok : S.ok
  B : BusIs w base bb rb bp bw bh N b.m F0 F0 b.out b.lamp b.tr vo vt
  lamp : u32 b.lamp
  lt : sb < base
  s1 : sb ≠ bb
  s2 : sb ≠ rb
  s3 : sb ≠ bp
  s4 : sb ≠ bw
  s5 : sb ≠ bh
  be : Below w0.heap.size w0 w
  l0 : w0.heap.size ≤ sb
  l1 : w0.heap.size ≤ bb
  l2 : w0.heap.size ≤ bp
  l3 : w0.heap.size ≤ bh
section
variable {w0 w : World} {base sb bb rb bp bw bh N : Nat} {S : St} {b : Bs} {vo vt : Value}
theorem Mach.stays {w' : World} (M : Mach w0 w base sb bb rb bp bw bh N S b vo vt) (h : Below w.heap.size w w') : Mach w0 w' base sb bb rb bp bw bh N S b vo vt :=
  ⟨M.a.stays h, M.ok, M.B.stays h, M.lamp, M.lt, M.s1, M.s2, M.s3, M.s4, M.s5, M.be.trans (h.mono M.be.size), M.l0, M.l1, M.l2, M.l3⟩
/-- what stays of a machine while another one steps -/
theorem Mach.kept {w' : World} {X : Nat → Prop} (M : Mach w0 w base sb bb rb bp bw bh N S b vo vt) (h : Kept w w' X) (h0 : ¬ X sb) (hx : ∀ k, (k = bb ∨ k = rb ∨ k = bp ∨ k = bw ∨ k = bh ∨ vo.ownBlock = some k ∨ vt.ownBlock = some k) → ¬ X k) (hl : ∀ k, k < w0.heap.size → ¬ X k) : Mach w0 w' base sb bb rb bp bw bh N S b vo vt :=
  ⟨M.a.kept h h0, M.ok, M.B.keptX h hx, M.lamp, M.lt, M.s1, M.s2, M.s3, M.s4, M.s5, h.below M.be (Nat.le_refl _) hl, M.l0, M.l1, M.l2, M.l3⟩
theorem can_any (M : Mach w0 w base sb bb rb bp bw bh N S b vo vt) : Calls Tryz.prog 47 #[.pointer (some ⟨sb, 0, none⟩), .pointer (some ⟨bb, 0, none⟩)] w fun e w' => e = .returned (.bool true) ∧ w' = w := by
  have h := ramOf_any M.B
  clear M
  go_enter Tryz.func47, Tryz.ntmps47
  go_wp2_with (go_at_call 10; refine h.mono ?_; rintro e w' ⟨rfl, rfl⟩)
  go_ret
  exact ⟨rfl, rfl⟩
set_option maxHeartbeats 8000000 in
theorem step_any (ps pa pf pk pn : Addr) (E : Er ps pa pf w0) (T : K.Tb pk pn w0) (M : Mach w0 w base sb bb rb bp bw bh N S b vo vt) (hn0 : b.out.length ≤ 1000) (hn : b.tr.length ≤ 1000) (hN : N + 1 < maxLen) (hct : S.ct + 1 < 9223372036854775807) :
    Calls Tryz.prog 13 #[.pointer (some ⟨sb, 0, none⟩), .pointer (some ⟨bb, 0, none⟩)] w fun e w' => e = .returned (.int .i64 (stepP S b).1) ∧ ∃ N' vo' vt', N' ≤ N + 2 ∧ Mach w0 w' base sb bb rb bp bw bh N' (stepP S b).2.1 (stepP S b).2.2 vo' vt' ∧ Kept w w' (XM sb bb bp bh vo vt) ∧ Moved w vo vo' ∧ Moved w vt vt' := by
  have MH : Hid (Mach w0 w base sb bb rb bp bw bh N S b vo vt) := M
  have hcan := can_any M
  have hP := doP_plain M.ok b
  have hsz := M.B.bs
  have h6 : 6 ≤ w.heap.size := by have := T.size; have := M.be.size; omega
  have hal : Below w.heap.size w (w.alloc (.cells #[.pointer (some ⟨sb, 0, none⟩), .int .i64 0, .int .i64 0, .int .i64 0, .int .i64 0, .int .u32 0, .pointer (some ⟨bb, 0, none⟩)] 115)) := (Below.refl _ _).alloc (Nat.le_refl _) _
  have MA := M.stays hal
  have hlts : sb < w.heap.size := M.a.lt
  have c : Cp (w.alloc (.cells #[.pointer (some ⟨sb, 0, none⟩), .int .i64 0, .int .i64 0, .int .i64 0, .int .i64 0, .int .u32 0, .pointer (some ⟨bb, 0, none⟩)] 115)) w.heap.size sb bb S 0 0 0 0 0 :=
    ⟨⟨by simp, by simp, by simp, by simp, by simp, by simp, by simp⟩, MA.a, M.ok, by omega, by omega, by omega, by omega, by omega, by omega⟩
  have hlow : ∀ k, (k = bb ∨ k = rb ∨ k = bp ∨ k = bw ∨ k = bh ∨ vo.ownBlock = some k ∨ vt.ownBlock = some k) → ¬ k = w.heap.size := fun k hk e => by have := M.B.lt hk; omega
  have ap : Ap w.heap.size sb base bb rb bp bw bh vo vt := ⟨M.lt, M.s1, M.s2, M.s3, M.s4, M.s5, fun e => hlow bb (by simp) e.symm, fun e => hlow bp (by simp) e.symm, fun e => hlow bh (by simp) e.symm, fun e => hlow _ (by simp [e]) rfl, fun e => hlow _ (by simp [e]) rfl⟩
  have hdo := doC_any ps pa pf pk pn (E.stays MA.be) (T.stays MA.be (Nat.le_refl _)) c MA.B ap hlow M.lamp hn0 hn hN h6 (fun j => by simp)
  have hfin : stepP S b = ((doC S b).1, { (if (doC S b).1 = -1 then (doC S b).2.1 else excP (doC S b).2.1 (doC S b).1) with ct := S.ct + 1 }, (doC S b).2.2) := by unfold stepP; rw [hP.ct]
  have hc0 := M.ok.c0
  clear M E T c MA ap
  generalize doC S b = D at *
  go_enter Tryz.func13, Tryz.ntmps13
  go_wp2_with (go_at_call 47; refine hcan.mono ?_; rintro e w' ⟨rfl, hw'⟩; rw [hw']; clear hw' w')
  refine hdo.mono ?_
  rintro e w2 ⟨rfl, ⟨k, s, t, d, m, N', vo', vt', hN', C2, B2, K2, M1, M2⟩⟩
  clear hdo hcan
  have K0 : Kept w w2 (XM sb bb bp bh vo vt) := (Kept.of_below _ hal).trans K2 (fun k hk h => h.elim (fun e => absurd e (by omega)) id)
  have mv : ∀ {x y : Value}, Moved (w.alloc (.cells #[.pointer (some ⟨sb, 0, none⟩), .int .i64 0, .int .i64 0, .int .i64 0, .int .i64 0, .int .u32 0, .pointer (some ⟨bb, 0, none⟩)] 115)) x y → Moved w x y := fun h k hk => (h k hk).imp id (fun h => by simp at h; omega)
  have fin : ∀ (w5 : World) (S5 : St), StAt w5 sb S5 → S5.ok → Kept w2 w5 (· = sb) → S5 = { (if D.1 = -1 then D.2.1 else excP D.2.1 D.1) with ct := S.ct + 1 } → (Ending.returned (.int .i64 D.1) = .returned (.int .i64 (stepP S b).1) ∧ ∃ N' vo' vt', N' ≤ N + 2 ∧ Mach w0 w5 base sb bb rb bp bw bh N' (stepP S b).2.1 (stepP S b).2.2 vo' vt' ∧ Kept w w5 (XM sb bb bp bh vo vt) ∧ Moved w vo vo' ∧ Moved w vt vt') := by
    intro w5 S5 A5 o5 T5 e5
    have K5 : Kept w w5 (XM sb bb bp bh vo vt) := K0.trans T5.xm_st (fun _ _ h => h)
    rw [hfin]
    refine ⟨rfl, N', vo', vt', hN', ⟨by rw [← e5]; exact A5, by rw [← e5]; exact o5, B2.st T5 MH.out.lt MH.out.s1 MH.out.s2 MH.out.s3 MH.out.s4 MH.out.s5, hP.lamp MH.out.lamp, MH.out.lt, MH.out.s1, MH.out.s2, MH.out.s3, MH.out.s4, MH.out.s5, K5.below MH.out.be (Nat.le_refl _) (fun k hk hx => ?_), MH.out.l0, MH.out.l1, MH.out.l2, MH.out.l3⟩, K5, mv M1, mv M2⟩
    have q0 := MH.out.l0; have q1 := MH.out.l1; have q2 := MH.out.l2; have q3 := MH.out.l3
    have q5 := MH.out.lt
    rcases hx with h | h | h | h | h | h
    · omega
    · omega
    · omega
    · omega
    · have := (MH.out.B.ro.lt _ h).1; omega
    · have := (MH.out.B.rt.lt _ h).1; omega
  have hct2 := hP.ct
  by_cases he : D.1 = -1
  · have p0 := C2.p.p0
    have q42 := C2.a.told.2.2.2.2.2.2.2.2.2.2
    rw [hct2] at q42
    have f42 := C2.a.fz 42
    have hb : (D.1 != -1) = false := by simp [he]
    have F := fin _ _ (C2.a.putCt (S.ct + 1)) (St.ok_ctr C2.ok (by omega) hct) ((Kept.refl w2 _).put 42 _) (by rw [if_pos he])
    rw [he] at F
    clear fin
    go_wp2
    go_ret
    exact F
  · have hcode : 0 ≤ D.1 ∧ D.1 < 32 := hP.code.resolve_left he
    have hb : (D.1 != -1) = true := by simpa using he
    have hx := except_any C2 D.1 hcode.1 hcode.2
    go_wp2_with fail
    refine hx.mono ?_
    rintro e w3 ⟨rfl, A3, T3⟩
    have C3 := C2.turn T3 A3 (excP_ok C2.ok D.1)
    have p0 := C3.p.p0
    have q42 := A3.told.2.2.2.2.2.2.2.2.2.2
    rw [excP_ct, hct2] at q42
    have f42 := A3.fz 42
    have F := fin _ _ (A3.putCt (S.ct + 1)) (St.ok_ctr C3.ok (by omega) hct) (T3.put 42 _) (by rw [if_neg he])
    clear fin hx
    go_wp2
    go_ret
    exact F
/-- a new state -/
def St.new (pc : Int) : St := ⟨fun _ => 0, 0, 0, pc, Num.lo (pc + 4), false, 0, 0, 0, 0, 0, 0⟩
theorem St.new_ok {pc : Int} (h : u32 pc) : (St.new pc).ok := ⟨fun _ => ⟨by show (0:Int) ≤ 0; omega, by show (0:Int) < _; omega⟩, ⟨by show (0:Int) ≤ 0; omega, by show (0:Int) < _; omega⟩, ⟨by show (0:Int) ≤ 0; omega, by show (0:Int) < _; omega⟩, h, lo_bd _, ⟨by show (0:Int) ≤ 0; omega, by show (0:Int) < _; omega⟩, ⟨by show (0:Int) ≤ 0; omega, by show (0:Int) < _; omega⟩, ⟨by show (0:Int) ≤ 0; omega, by show (0:Int) < _; omega⟩, ⟨by show (0:Int) ≤ 0; omega, by show (0:Int) < _; omega⟩, ⟨by show (0:Int) ≤ 0; omega, by show (0:Int) < _; omega⟩, by show _ ≤ (0:Int); omega, by show (0:Int) < _; omega⟩
set_option maxRecDepth 100000 in
set_option maxHeartbeats 4000000 in
theorem newSt_any (pc : Int) (h : u32 pc) (w : World) : Calls Tryz.prog 34 #[.int .u32 pc] w fun e w' => ∃ sb, e = .returned (.pointer (some ⟨sb, 0, none⟩)) ∧ StAt w' sb (St.new pc) ∧ Below w.heap.size w w' ∧ w.heap.size ≤ sb := by
  obtain ⟨h0, h1⟩ := h
  go_enter Tryz.func34, Tryz.ntmps34
  go_wp2
  go_ret
  refine ⟨w.heap.size, rfl, ⟨fun j hj => ?_, fun j => by simp⟩, (Below.refl _ _).alloc (Nat.le_refl _) _, Nat.le_refl _⟩
  have hj' : j = 0 ∨ j = 1 ∨ j = 2 ∨ j = 3 ∨ j = 4 ∨ j = 5 ∨ j = 6 ∨ j = 7 ∨ j = 8 ∨ j = 9 ∨ j = 10 ∨ j = 11 ∨ j = 12 ∨ j = 13 ∨ j = 14 ∨ j = 15 ∨ j = 16 ∨ j = 17 ∨ j = 18 ∨ j = 19 ∨ j = 20 ∨ j = 21 ∨ j = 22 ∨ j = 23 ∨ j = 24 ∨ j = 25 ∨ j = 26 ∨ j = 27 ∨ j = 28 ∨ j = 29 ∨ j = 30 ∨ j = 31 ∨ j = 32 ∨ j = 33 ∨ j = 34 ∨ j = 35 ∨ j = 36 ∨ j = 37 ∨ j = 38 ∨ j = 39 ∨ j = 40 ∨ j = 41 ∨ j = 42 := by omega
  clear hj
  rcases hj' with rfl | rfl | rfl | rfl | rfl | rfl | rfl | rfl | rfl | rfl | rfl | rfl | rfl | rfl | rfl | rfl | rfl | rfl | rfl | rfl | rfl | rfl | rfl | rfl | rfl | rfl | rfl | rfl | rfl | rfl | rfl | rfl | rfl | rfl | rfl | rfl | rfl | rfl | rfl | rfl | rfl | rfl | rfl <;> simp [stV, St.new, Num.lo]
end
end Go.Proofs.YtflagpkmebdckaaGreatDoor
/-
  Steps, one behind the other; the closed fact.
-/
namespace Go.Proofs.YtflagpkmebdckaaGreatDoor
open Go.RowKit Go.Maps
open Num
set_option linter.unusedVariables false
theorem stepP_ct {S : St} (o : S.ok) (b : Bs) : (stepP S b).2.1.ct = S.ct + 1 := by show (doC S b).2.1.ct + 1 = _; rw [(doP_plain o b).ct]
theorem stepP_out {S : St} (o : S.ok) (b : Bs) : (stepP S b).2.2.out.length ≤ b.out.length + 1 ∧ (stepP S b).2.2.tr.length ≤ b.tr.length + 1 := ⟨(doP_plain o b).out, (doP_plain o b).tr⟩
section
variable {w0 w : World} {base sb bb rb bp bw bh N : Nat} {S : St} {b : Bs} {vo vt : Value}
end
set_option maxRecDepth 100000 in
set_option maxHeartbeats 1000000 in
theorem newBus_all {w : World} {v : Value} {xs : List Int} (X : WordsIn w v xs) (hx : xs.length ≤ 5000) :
    Calls Tryz.prog 8 #[v] w fun e w' => ∃ bb sb bp bw bh : Nat, e = .returned (.pointer (some ⟨bb, 0, none⟩)) ∧ NewBus w' bb sb bp bw bh xs ∧ Below w.heap.size w w' ∧ (w.heap.size ≤ bb ∧ w.heap.size ≤ sb ∧ w.heap.size ≤ bp ∧ w.heap.size ≤ bw ∧ w.heap.size ≤ bh) := by
  have hnw := new_ex2 X hx
  clear X hx
  go_enter Tryz.func8, Tryz.ntmps8
  go_wp2_with fail
  refine hnw.mono ?_
  rintro e w1 ⟨sb, bp, bw, bh, rfl, R, hb, l1, l2, l3, l4⟩
  clear hnw
  go_wp2
  go_ret
  have hA : Below w1.heap.size w1 (w1.alloc (.cells #[.pointer (some ⟨sb, 0, none⟩), .slice none 0 0, .int .u32 0, .slice none 0 0] 94)) := (Below.refl _ _).alloc (Nat.le_refl _) _
  have l := R.lt
  have hz := hb.size
  exact ⟨w1.heap.size, sb, bp, bw, bh, rfl, ⟨by simp, by simp, by simp, by simp, fun j => by simp, R.stays hA (Nat.le_refl _), by omega, by omega, by omega, by omega⟩, hb.trans (hA.mono hz), hz, l1, l2, l3, l4⟩
/-- a new state and a new bus -/
theorem mach_new {w0 w1 w2 : World} {sb bb rb bp bw bh : Nat} {pc : Int} {xs : List Int} (hpc : u32 pc) (b1 : Below w0.heap.size w0 w1) (A : StAt w1 sb (St.new pc)) (l0 : w0.heap.size ≤ sb) (NB : NewBus w2 bb rb bp bw bh xs) (b2 : Below w1.heap.size w1 w2) (lb : w1.heap.size ≤ bb ∧ w1.heap.size ≤ rb ∧ w1.heap.size ≤ bp ∧ w1.heap.size ≤ bw ∧ w1.heap.size ≤ bh) :
    Mach w0 w2 w2.heap.size sb bb rb bp bw bh 64 (St.new pc) ⟨mw xs, [], 0, []⟩ (.slice none 0 0) (.slice none 0 0) := by
  have h := A.lt
  have z := b1.size
  have z2 := b2.size
  exact ⟨A.stays b2, St.new_ok hpc, NB.is, ⟨by show (0:Int) ≤ 0; omega, by show (0:Int) < _; omega⟩, by omega, by omega, by omega, by omega, by omega, by omega, b1.trans (b2.mono b1.size), l0, by omega, by omega, by omega⟩
/-! the closed fact -/
def stepB : Bs := ⟨mw [604045319], [], 0, []⟩
theorem step_ld : ld (mw [604045319]) 0 4 false = 604045319 := by decide +kernel
theorem step_dec : decK 604045319 = 36 := by decide +kernel
theorem step_do : doC (St.new 0) stepB = (-1, ((St.new 0).set 1 7).on, stepB) := by
  unfold doC
  rw [if_neg (by decide), if_neg (by decide)]
  show insP (St.new 0) stepB (decK (ld (mw [604045319]) 0 4 false)) (Tab.xs (Tab.sh (decK (ld (mw [604045319]) 0 4 false))) (ld (mw [604045319]) 0 4 false)).toNat (Tab.xt (Tab.sh (decK (ld (mw [604045319]) 0 4 false))) (ld (mw [604045319]) 0 4 false)).toNat (Tab.xd (Tab.sh (decK (ld (mw [604045319]) 0 4 false))) (ld (mw [604045319]) 0 4 false)).toNat (Tab.xm (Tab.sh (decK (ld (mw [604045319]) 0 4 false))) (ld (mw [604045319]) 0 4 false)) = _
  rw [step_ld, step_dec]
  rw [show (Tab.xs (Tab.sh 36) 604045319).toNat = 0 by decide +kernel, show (Tab.xt (Tab.sh 36) 604045319).toNat = 1 by decide +kernel, show (Tab.xd (Tab.sh 36) 604045319).toNat = 0 by decide +kernel, show Tab.xm (Tab.sh 36) 604045319 = 7 by decide +kernel]
  unfold insP
  rw [if_neg (by decide), if_neg (by decide), if_neg (by decide), if_neg (by decide)]
  unfold sumP
  rw [if_neg (by decide), if_neg (by decide), if_neg (by decide), if_neg (by decide), if_neg (by decide)]
  rfl
set_option maxRecDepth 100000 in
set_option maxHeartbeats 4000000 in
theorem stepped_any (ps pa pf pk pn : Addr) {w : World} (E : Er ps pa pf w) (T : K.Tb pk pn w) : Calls Tryz.prog 7 #[] w fun e w' => e = .returned (.bool true) ∧ Below w.heap.size w w' := by
  have EH : Hid (Er ps pa pf w) := E
  have TH : Hid (K.Tb pk pn w) := T
  clear E T
  go_enter Tryz.func7, Tryz.ntmps7
  go_wp2_with fail
  refine (newSt_any 0 ⟨by omega, by omega⟩ _).mono ?_
  rintro e w1 ⟨sb, rfl, A1, b1, l1⟩
  go_wp2_with fail
  have X : WordsIn (w1.alloc (.cells #[.int .u32 604045319] 22)) (.slice (some ⟨w1.heap.size, 0, none⟩) 1 1) [604045319] := by
    refine ⟨⟨_, 1, rfl, by simp, fun _ => ⟨w1.heap.size, 0, rfl, fun i hi => ?_⟩⟩, mw_wf _ (by simp)⟩
    have : i = 0 := by simp at hi; omega
    subst this
    simp
  have hA : Below w1.heap.size w1 (w1.alloc (.cells #[.int .u32 604045319] 22)) := (Below.refl _ _).alloc (Nat.le_refl _) _
  refine (newBus_all X (by simp)).mono ?_
  rintro e w2 ⟨bb, rb, bp, bw, bh, rfl, NB, b2, lb⟩
  have M := mach_new (w0 := w) ⟨by omega, by omega⟩ (b1.trans (hA.mono b1.size)) (A1.stays hA) l1 NB b2 lb
  have hs := step_any ps pa pf pk pn EH.out TH.out M (by simp) (by simp) (by unfold maxLen; omega) (by show (0:Int) + 1 < _; omega)
  clear X hA A1 b1 b2 NB lb l1
  go_wp2_with fail
  refine hs.mono ?_
  rintro e w3 ⟨rfl, N', vo', vt', hN', M3, K3, _, _⟩
  have hD := step_do
  have e1 : (stepP (St.new 0) ⟨mw [604045319], [], 0, []⟩).1 = -1 := by show (doC (St.new 0) stepB).1 = -1; rw [hD]
  have eS : (stepP (St.new 0) ⟨mw [604045319], [], 0, []⟩).2.1 = { ((St.new 0).set 1 7).on with ct := 1 } := by
    show ({ (if (doC (St.new 0) stepB).1 = -1 then (doC (St.new 0) stepB).2.1 else excP (doC (St.new 0) stepB).2.1 (doC (St.new 0) stepB).1) with ct := (doC (St.new 0) stepB).2.1.ct + 1 } : St) = _
    rw [hD]
    rfl
  have A3 := M3.a
  have be := M3.be
  rw [eS] at A3
  rw [e1]
  have q1 : w3.cell? ⟨sb, 1, none⟩ = some (.int .u32 7) := A3.reg (by omega)
  have q34 : w3.cell? ⟨sb, 34, none⟩ = some (.int .u32 4) := A3.told.2.2.1
  have q35 : w3.cell? ⟨sb, 35, none⟩ = some (.int .u32 8) := A3.told.2.2.2.1
  have q42 : w3.cell? ⟨sb, 42, none⟩ = some (.int .i64 1) := A3.told.2.2.2.2.2.2.2.2.2.2
  clear A3 M3 K3 M hs hD e1 eS
  go_wp2
  go_ret
  exact ⟨rfl, be⟩
end Go.Proofs.YtflagpkmebdckaaGreatDoor
/-
  An instruction and a step, as the document does them: what the processor's step is.
-/
namespace Go.Proofs.YtflagpkmebdckaaGreatDoor
open Go.RowKit Go.Maps
open Num
set_option linter.unusedVariables false
theorem kinds5 : ∀ k, k < 54 → Tab.kind k = [98, 114, 97, 110, 99, 104] ∨ Tab.kind k = [108, 111, 97, 100] ∨ Tab.kind k = [115, 116, 111, 114, 101] ∨ Tab.kind k = [116, 114, 97, 112] ∨ Tab.kind k = [115, 117, 109] := by decide
def htI (wt ht : Int → Bool) (S : St) (k s : Nat) (m : Int) : Int → Bool := if Tab.kind k = [115, 116, 111, 114, 101] then htD wt ht (adI S k s m) (szI k) else ht
theorem htD_F0 (a s : Int) : htD F0 F0 a s = F0 := by
  have e : hitN F0 F0 a = F0 := by funext p; simp [hitN, F0]
  unfold htD; rw [e]; simp
theorem htI_F0 (S : St) (k s : Nat) (m : Int) : htI F0 F0 S k s m = F0 := by unfold htI; rw [htD_F0]; simp
theorem bad_got {b : Bs} {a s : Int} (c : Int) (h : bad a s = true) : b.got a s c = b := by
  unfold Bs.got; rw [if_neg (fun e => by simp [bad, e] at h)]
theorem bad_put {b : Bs} {a s : Int} (v c : Int) (h : bad a s = true) : b.put a s v c = b := by
  unfold bad at h; simp at h
  unfold Bs.put; rw [if_neg (by simp [h.1]), if_neg h.2]
theorem set_r0 {S : St} (h : S.r 0 = 0) (n : Nat) (v : Int) : (S.set n v).r 0 = 0 := by
  unfold St.set
  split
  · exact h
  · show (if 0 = n then v else S.r 0) = 0
    rw [if_neg (by omega), h]
theorem insP_r0 {S : St} (h : S.r 0 = 0) (b : Bs) (k s t d : Nat) (m : Int) : (insP S b k s t d m).2.1.r 0 = 0 := by
  unfold insP
  split
  · show (branchP S k s t d m).2.r 0 = 0
    unfold branchP
    split
    · exact h
    · show (if k = 30 then S.set 31 _ else if k = 8 then S.set d _ else S).r 0 = 0
      split
      · exact set_r0 h _ _
      split
      · exact set_r0 h _ _
      · exact h
  split
  · split
    · exact h
    · exact set_r0 h _ _
  split
  · split <;> exact h
  split
  · show (trapP S k t d).2.r 0 = 0
    unfold trapP fromP toP backP
    (repeat' split) <;> first | exact h | exact set_r0 h _ _
  · show (sumP S k s t d m).2.r 0 = 0
    unfold sumP
    (repeat' split) <;> first | exact h | exact set_r0 h _ _ | (dsimp only; split <;> exact h)
theorem excP_r (S : St) (e : Int) : (excP S e).r = S.r := by unfold excP exc1; dsimp only [St.jump]; split <;> (try split) <;> rfl
section
variable {w : World} {sb base db rb gb kb hb : Nat} {b : Bs} {wt ht : Int → Bool} {vt : Value} {S : St} {k s t d : Nat} {m : Int}
theorem insP_ok (o : S.ok) (mb : ∀ i, 0 ≤ b.m i ∧ b.m i < 4294967296) (lb : u32 b.lamp) (k s t d : Nat) {m : Int} (m0 : 0 ≤ m) (m1 : m < 4294967296) : (insP S b k s t d m).2.1.ok := by
  unfold insP
  split
  · exact branchP_ok o k s t d m
  split
  · split
    · exact St.ok_bd o (lo_bd _)
    · exact St.on_ok (St.set_ok o _ (valI_bd mb lb _ _ _ _))
  split
  · split
    · exact St.ok_bd o (lo_bd _)
    · exact St.on_ok o
  split
  · exact trapP_ok o k t d
  · exact sumP_ok o k s t d m0 m1
theorem oneIns_any (A : StAt w sb S) (B : DBus w base db rb gb kb hb b wt ht vt) (ap : Dap sb base db rb gb kb hb) (ok : S.ok) (hr0 : S.r 0 = 0) (hk : k < 54) (hs : s < 32) (ht' : t < 32) (hd : d < 32) (m0 : 0 ≤ m) (m1 : m < 4294967296) (v1 : k = 1 ∨ k = 2 ∨ k = 3 → m < 32) (v2 : k = 29 ∨ k = 30 → m < 67108864) (hn : b.out.length ≤ 1000) (hn2 : b.tr.length ≤ 1000) :
    Calls Tryz.prog 69 #[.pointer (some ⟨sb, 0, none⟩), .pointer (some ⟨db, 0, none⟩), .agg #[.int .i64 k, .int .i64 s, .int .i64 t, .int .i64 d, .int .u32 m]] w (OnePost w sb base db rb gb kb hb wt vt (insP S b k s t d m).1 (insP S b k s t d m).2.1 (insP S b k s t d m).2.2 (htI wt ht S k s m)) := by
  rcases kinds5 k hk with h | h | h | h | h
  · have ei : insP S b k s t d m = ((branchP S k s t d m).1, (branchP S k s t d m).2, b) := by unfold insP; rw [if_pos h]
    have eh : htI wt ht S k s m = ht := by unfold htI; rw [if_neg (by rw [h]; decide)]
    have h45 : k ≠ 45 := fun e => by rw [e] at h; exact absurd h (by decide)
    rw [ei, eh]
    cases hsl : S.sl with
    | true =>
      have e1 : branchD S k s t d m = (-1, 10, S) := by unfold branchD; rw [if_pos hsl]
      have e2 : branchP S k s t d m = (10, S) := by unfold branchP; rw [if_pos hsl]
      rw [e2]
      refine oneIns_exc A B h45 ⟨-1, 10, S, b, ht⟩ (by show (0 : Int) ≤ 10; omega) hs ht' hd m0 m1 ok (fun W X Y => ?_)
      have := do_branch X Y ap ok hs ht' hd m0 m1 hk h v2
      rw [e1] at this
      exact this
    | false =>
      obtain ⟨e1, e2, e3, e4⟩ := branchD_eq ok hr0 k s t d m hsl
      have nx : u32 (branchD S k s t d m).2.2.nx := by rw [branchD_nx]; exact ok.nx
      have hdo := fun (W : World) (X : StAt W sb S) (Y : DBus W base db rb gb kb hb b wt ht vt) => do_branch X Y ap ok hs ht' hd m0 m1 hk h v2
      rw [e2, ← e1]
      rcases e4 with e4 | e4
      · have := oneIns_brn A B ap hk h45 h ⟨(branchD S k s t d m).1, (branchD S k s t d m).2.1, (branchD S k s t d m).2.2, b, ht⟩ e3 e4 nx hs ht' hd m0 m1 ok hdo
        rw [e4]; exact this
      · exact oneIns_brt A B ap hk h45 h ⟨(branchD S k s t d m).1, (branchD S k s t d m).2.1, (branchD S k s t d m).2.2, b, ht⟩ e3 e4 nx hs ht' hd m0 m1 ok hdo
  · have h45 : k ≠ 45 := fun e => by rw [e] at h; exact absurd h (by decide)
    have eh : htI wt ht S k s m = ht := by unfold htI; rw [if_neg (by rw [h]; decide)]
    have hdo := fun (W : World) (X : StAt W sb S) (Y : DBus W base db rb gb kb hb b wt ht vt) => do_load X Y ap ok hs ht' hd m0 m1 hk h hn hn2
    rw [eh]
    cases hbad : bad (adI S k s m) (szI k) with
    | true =>
      have ei : insP S b k s t d m = (4, { S with bd := adI S k s m }, b) := by unfold insP; rw [if_neg (by rw [h]; decide), if_pos h, if_pos hbad]
      rw [ei]
      simp only [hbad, if_true, bad_got S.ct hbad] at hdo
      exact oneIns_exc A B h45 ⟨-1, 4, { S with bd := adI S k s m }, b, ht⟩ (by show (0 : Int) ≤ 4; omega) hs ht' hd m0 m1 ok hdo
    | false =>
      have ei : insP S b k s t d m = (-1, (S.set t (b.val (adI S k s m) (szI k) (sgI k) S.ct)).on, b.got (adI S k s m) (szI k) S.ct) := by unfold insP; rw [if_neg (by rw [h]; decide), if_pos h, if_neg (by rw [hbad]; decide)]
      rw [ei]
      simp only [hbad, Bool.false_eq_true, if_false] at hdo
      rw [← fix_set hr0]
      exact oneIns_load A B ap hk h45 h ⟨-1, -1, S.putR t (b.val (adI S k s m) (szI k) (sgI k) S.ct), b.got (adI S k s m) (szI k) S.ct, ht⟩ rfl rfl ok.nx hs ht' hd m0 m1 ok hdo
  · have h45 : k ≠ 45 := fun e => by rw [e] at h; exact absurd h (by decide)
    have eh : htI wt ht S k s m = htD wt ht (adI S k s m) (szI k) := by unfold htI; rw [if_pos h]
    have hdo := fun (W : World) (X : StAt W sb S) (Y : DBus W base db rb gb kb hb b wt ht vt) => do_store X Y ap ok hs ht' hd m0 m1 hk h hn hn2
    rw [eh]
    cases hbad : bad (adI S k s m) (szI k) with
    | true =>
      have ei : insP S b k s t d m = (5, { S with bd := adI S k s m }, b) := by unfold insP; rw [if_neg (by rw [h]; decide), if_neg (by rw [h]; decide), if_pos h, if_pos hbad]
      rw [ei]
      simp only [hbad, if_true, bad_put (S.r t) S.ct hbad] at hdo
      exact oneIns_exc A B h45 ⟨-1, 5, { S with bd := adI S k s m }, b, htD wt ht (adI S k s m) (szI k)⟩ (by show (0 : Int) ≤ 5; omega) hs ht' hd m0 m1 ok hdo
    | false =>
      have ei : insP S b k s t d m = (-1, S.on, b.put (adI S k s m) (szI k) (S.r t) S.ct) := by unfold insP; rw [if_neg (by rw [h]; decide), if_neg (by rw [h]; decide), if_pos h, if_neg (by rw [hbad]; decide)]
      rw [ei]
      simp only [hbad, Bool.false_eq_true, if_false] at hdo
      rw [← fix_on hr0]
      exact oneIns_store A B ap hk h45 h ⟨-1, -1, S, b.put (adI S k s m) (szI k) (S.r t) S.ct, htD wt ht (adI S k s m) (szI k)⟩ rfl rfl ok.nx hs ht' hd m0 m1 ok hdo
  · have ei : insP S b k s t d m = ((trapP S k t d).1, (trapP S k t d).2, b) := by unfold insP; rw [if_neg (by rw [h]; decide), if_neg (by rw [h]; decide), if_neg (by rw [h]; decide), if_pos h]
    have eh : htI wt ht S k s m = ht := by unfold htI; rw [if_neg (by rw [h]; decide)]
    rw [ei, eh]
    by_cases h45 : k = 45
    · have e : trapP S k t d = backP S := by rw [h45]; rfl
      rw [e]
      by_cases hst : bits .and .u32 S.st 2 = 0
      · exact eret_shallow A B ap h45 hst hs ht' hd m0 m1 ok
      · cases hsl : S.sl with
        | true => exact eret_slot A B ap h45 hst hsl hs ht' hd m0 m1 ok
        | false => exact eret_on A B ap h45 hst hsl hs ht' hd m0 m1 ok
    · obtain ⟨e1, e2, e3⟩ := trapD_eq ok hr0 k t d h45
      have hdo := fun (W : World) (X : StAt W sb S) (Y : DBus W base db rb gb kb hb b wt ht vt) => do_trap X Y ap ok hs ht' hd m0 m1 hk h
      have nx : u32 (trapD S k t d).2.nx := by rw [trapD_nx]; exact ok.nx
      have hc := (trapP_ct S k t d).2
      by_cases he : (trapP S k t d).1 = -1
      · rw [he, ← e2 he]
        exact oneIns_trap A B ap hk h45 h ⟨-1, (trapD S k t d).1, (trapD S k t d).2, b, ht⟩ (e1.trans he) rfl nx hs ht' hd m0 m1 ok hdo
      · rw [← e1, ← e3 he]
        exact oneIns_exc A B h45 ⟨-1, (trapD S k t d).1, (trapD S k t d).2, b, ht⟩ (by show 0 ≤ (trapD S k t d).1; rw [e1]; omega) hs ht' hd m0 m1 ok hdo
  · have ei : insP S b k s t d m = ((sumP S k s t d m).1, (sumP S k s t d m).2, b) := by unfold insP; rw [if_neg (by rw [h]; decide), if_neg (by rw [h]; decide), if_neg (by rw [h]; decide), if_neg (by rw [h]; decide)]
    have eh : htI wt ht S k s m = ht := by unfold htI; rw [if_neg (by rw [h]; decide)]
    have h45 : k ≠ 45 := fun e => by rw [e] at h; exact absurd h (by decide)
    rw [ei, eh]
    obtain ⟨e1, e2, e3⟩ := sumD_eq hr0 k s t d m
    have hdo := fun (W : World) (X : StAt W sb S) (Y : DBus W base db rb gb kb hb b wt ht vt) => do_sum X Y ap ok hs ht' hd m0 m1 hk h v1
    have nx : u32 (sumD S k s t d m).2.nx := by rw [sumD_nx]; exact ok.nx
    have hc := (sumP_ct S k s t d m).2
    by_cases he : (sumP S k s t d m).1 = -1
    · rw [he, ← e2 he]
      exact oneIns_sum A B ap hk h45 h ⟨-1, (sumD S k s t d m).1, (sumD S k s t d m).2, b, ht⟩ (e1.trans he) rfl nx hs ht' hd m0 m1 ok hdo
    · rw [← e1, ← e3 he]
      exact oneIns_exc A B h45 ⟨-1, (sumD S k s t d m).1, (sumD S k s t d m).2, b, ht⟩ (by show 0 ≤ (sumD S k s t d m).1; rw [e1]; omega) hs ht' hd m0 m1 ok hdo
/-- the instruction of a word, by the document -/
theorem decodeD_any (v : Int) (h0 : 0 ≤ v) (h1 : v < 4294967296) (w : World) :
    Calls Tryz.prog 100 #[.int .u32 v] w fun e w' => e = .returned (.agg #[.int .i64 (decK v), .int .i64 (Tab.xs (Tab.sh (decK v)) v).toNat, .int .i64 (Tab.xt (Tab.sh (decK v)) v).toNat, .int .i64 (Tab.xd (Tab.sh (decK v)) v).toNat, .int .u32 (Tab.xm (Tab.sh (decK v)) v)]) ∧ Below w.heap.size w w' := by
  refine (K.decodeOf_any v h0 h1 w).mono ?_
  rintro e w' ⟨k, hd, rfl, hb⟩
  obtain rfl := decK_of h0 h1 hd
  obtain ⟨g1, g2, g3, g4⟩ := K.x_rng (Tab.sh (decK v)) v h0 h1
  refine ⟨?_, hb⟩
  rw [Int.toNat_of_nonneg g1.1, Int.toNat_of_nonneg g2.1, Int.toNat_of_nonneg g3.1]
  rfl
theorem decK_lt (v : Int) : decK v < 54 := by
  unfold decK
  cases hf : (List.range 54).find? (fun k => decide (1 ≤ k ∧ Tab.xw k v = v)) with
  | none => decide
  | some j => exact List.mem_range.1 (List.mem_of_find?_eq_some hf)
theorem xm_shift {k : Nat} {v : Int} (h : k = 1 ∨ k = 2 ∨ k = 3) : Tab.xm (Tab.sh k) v < 32 := by
  have : Tab.xm (Tab.sh k) v = v / 64 % 32 := by rcases h with rfl | rfl | rfl <;> rfl
  omega
/-- a state and a bus of the document, apart from one another -/
structure DMch (w0 w : World) (base sb db rb gb kb hb : Nat) (S : St) (b : Bs) (vt : Value) : Prop where
  a : StAt w sb S
  ok : S.ok
  r0 : S.r 0 = 0
  B : DBus w base db rb gb kb hb b F0 F0 vt
  lamp : u32 b.lamp
  ap : Dap sb base db rb gb kb hb
  be : Below w0.heap.size w0 w
  l0 : w0.heap.size ≤ sb
  l1 : w0.heap.size ≤ db
  l2 : w0.heap.size ≤ gb
  l3 : w0.heap.size ≤ hb
end
section
variable {w0 w : World} {base sb db rb gb kb hb : Nat} {S : St} {b : Bs} {vt : Value}
theorem DMch.stays {w' : World} (M : DMch w0 w base sb db rb gb kb hb S b vt) (h : Below w.heap.size w w') : DMch w0 w' base sb db rb gb kb hb S b vt :=
  ⟨M.a.stays h, M.ok, M.r0, M.B.stays h, M.lamp, M.ap, M.be.trans (h.mono M.be.size), M.l0, M.l1, M.l2, M.l3⟩
theorem DMch.kept {w' : World} {X : Nat → Prop} (M : DMch w0 w base sb db rb gb kb hb S b vt) (h : Kept w w' X) (h0 : ¬ X sb) (hx : ∀ k, k = db ∨ k = rb ∨ k = gb ∨ k = kb ∨ k = hb ∨ vt.ownBlock = some k → ¬ X k) (hl : ∀ k, k < w0.heap.size → ¬ X k) : DMch w0 w' base sb db rb gb kb hb S b vt :=
  ⟨M.a.kept h h0, M.ok, M.r0, M.B.kept h hx, M.lamp, M.ap, h.below M.be (Nat.le_refl _) hl, M.l0, M.l1, M.l2, M.l3⟩
theorem DMch.low (M : DMch w0 w base sb db rb gb kb hb S b vt) : ∀ k, k < w0.heap.size → ¬ DM sb db gb hb vt k := by
  intro k hk e
  have := M.l0; have := M.l1; have := M.l2; have := M.l3
  rcases e with e | e | e | e | e
  · omega
  · omega
  · omega
  · omega
  · have := (M.B.rt.lt k e).1; have := M.ap.lt; omega
set_option maxRecDepth 100000 in
set_option maxHeartbeats 8000000 in
theorem oneD_any (M : DMch w0 w base sb db rb gb kb hb S b vt) (hn : b.out.length ≤ 1000) (hn2 : b.tr.length ≤ 1000) (hint : intB S = false) :
    Calls Tryz.prog 51 #[.pointer (some ⟨sb, 0, none⟩), .pointer (some ⟨db, 0, none⟩)] w (OnePost w sb base db rb gb kb hb F0 vt (doC S b).1 (doC S b).2.1 (doC S b).2.2 F0) := by
  have MH : Hid (DMch w0 w base sb db rb gb kb hb S b vt) := M
  have c0 := M.B.c0
  obtain ⟨-, -, q34, -⟩ := M.a.told
  by_cases hc : chk S.pc 4 = 0
  · have X : doC S b = insP S b (decK (ld b.m S.pc 4 false)) (Tab.xs (Tab.sh (decK (ld b.m S.pc 4 false))) (ld b.m S.pc 4 false)).toNat (Tab.xt (Tab.sh (decK (ld b.m S.pc 4 false))) (ld b.m S.pc 4 false)).toNat (Tab.xd (Tab.sh (decK (ld b.m S.pc 4 false))) (ld b.m S.pc 4 false)).toNat (Tab.xm (Tab.sh (decK (ld b.m S.pc 4 false))) (ld b.m S.pc 4 false)) := by unfold doC; rw [if_neg (by simp [hint]), if_neg (by simp [hc])]
    have hl := dload_ok (MH.out.B.stays (below_drew (Below.refl _ _))).D.d S.pc 4 false M.ok.pc.1 M.ok.pc.2 hc
    have hv : u32 (ld b.m S.pc 4 false) := by
      have := M.B.D.d.mb (S.pc / 4).toNat
      have h := ediv_bd (d := 2 ^ (bhd S.pc 4).toNat) this.1 (Int.pow_pos (by omega))
      exact wd_bd h.1 (by omega) _
    rw [X]
    clear X hc
    generalize ld b.m S.pc 4 false = v at *
    obtain ⟨v0, v1⟩ := hv
    have hdec := fun W => decodeD_any v v0 v1 W
    obtain ⟨g1, g2, g3, g4⟩ := K.x_rng (Tab.sh (decK v)) v v0 v1
    have hone := fun (W : World) (A : StAt W sb S) (B : DBus W base db rb gb kb hb b F0 F0 vt) => oneIns_any (k := decK v) (s := (Tab.xs (Tab.sh (decK v)) v).toNat) (t := (Tab.xt (Tab.sh (decK v)) v).toNat) (d := (Tab.xd (Tab.sh (decK v)) v).toNat) (m := Tab.xm (Tab.sh (decK v)) v) A B MH.out.ap MH.out.ok MH.out.r0 (decK_lt v) (by omega) (by omega) (by omega) g4.1 (by omega) (fun e => xm_shift e) (fun _ => g4.2) hn hn2
    simp only [htI_F0] at hone
    generalize insP S b (decK v) (Tab.xs (Tab.sh (decK v)) v).toNat (Tab.xt (Tab.sh (decK v)) v).toNat (Tab.xd (Tab.sh (decK v)) v).toNat (Tab.xm (Tab.sh (decK v)) v) = x at *
    generalize (Tab.xs (Tab.sh (decK v)) v).toNat = s at *
    generalize (Tab.xt (Tab.sh (decK v)) v).toNat = t at *
    generalize (Tab.xd (Tab.sh (decK v)) v).toNat = d at *
    generalize Tab.xm (Tab.sh (decK v)) v = mm at *
    generalize decK v = k at *
    clear M g1 g2 g3 g4
    go_enter Tryz.func51, Tryz.ntmps51
    go_upto_region 1 with fail
    refine wp_region_phase 14 [(0, 0), (1, 0), (2, 0), (3, 1), (4, 0), (5, 0), (6, 0), (7, 1), (8, 2), (9, 0), (10, 0), (11, 0), (12, 0), (13, 0)] (fun W => W.cell? ⟨db, 0, none⟩ = some (.pointer (some ⟨rb, 0, none⟩)) ∧ W.cell? ⟨sb, 34, none⟩ = some (.int .u32 S.pc)) (by kernel_rfl) (by kernel_rfl) (fun _ _ _ d _ h => by cases d <;> exact h) ⟨c0, q34⟩ ?_
    repeat (first | (refine wpPlanZ_free (by rfl) (by rfl) (fun W => by (go_simp; try with_reducible rfl)) (fun K hK => ?_); go_simp; refine hK _ ?_; clear hK K) | (refine wpPlanZ_quiet (by rfl) (by rfl) (fun W hW => by (obtain ⟨c0, q34⟩ := hW; go_simp; try with_reducible rfl)) (fun K hK => ?_); go_simp; refine hK _ ?_; clear hK K))
    refine wpPlanZ_serial (by rfl) (by rfl) (fun K hK => ?_)
    go_simp
    refine hl.mono ?_
    rintro e_ w_ ⟨rfl, rfl⟩
    refine hK _ _ (fun _ => ⟨c0, q34⟩) ?_
    clear hK K
    repeat (first | (refine wpPlanZ_free (by rfl) (by rfl) (fun W => by (go_simp; try with_reducible rfl)) (fun K hK => ?_); go_simp; refine hK _ ?_; clear hK K))
    refine wpPlanZ_nil ?_
    have M1 : Hid (DMch w0 w.drew base sb db rb gb kb hb S b vt) := MH.out.stays (below_drew (Below.refl _ _))
    have K1 : Kept w w.drew (DM sb db gb hb vt) := Kept.drew _ _
    clear hl c0 q34
    generalize w.drew = W1 at *
    go_wp2_with fail
    refine (hdec _).mono ?_
    rintro e_ w2 ⟨rfl, hb2⟩
    have M2 : Hid (DMch w0 w2 base sb db rb gb kb hb S b vt) := M1.out.stays hb2
    have K2 : Kept w w2 (DM sb db gb hb vt) := K1.trans (Kept.of_below _ hb2) (fun _ _ h => h)
    have hone2 := hone w2 M2.out.a M2.out.B
    clear hdec hb2 M1 hone
    go_wp2_with fail
    refine hone2.mono ?_
    rintro e_ w3 ⟨rfl, vt3, A3, B3, T3, M3⟩
    have K3 : Kept w w3 (DM sb db gb hb vt) := K2.trans T3 (fun _ _ h => h)
    have MM : Hid (Moved w vt vt3) := fun k hk => (M3 k hk).imp id (fun e => Nat.le_trans K2.size e)
    have B3H : Hid (DBus w3 base db rb gb kb hb x.2.2 F0 F0 vt3) := B3
    clear B3 T3 M3 hone2 M2
    go_wp2
    go_ret
    exact ⟨rfl, vt3, A3, B3H.out, K3, MM.out⟩
  · have X : doC S b = (4, { S with bd := S.pc }, b) := by unfold doC; rw [if_neg (by simp [hint]), if_pos hc]
    have hl := dload_no w.drew (.pointer (some ⟨rb, 0, none⟩)) S.pc 4 false M.ok.pc.1 M.ok.pc.2 (by omega) (by omega) hc
    have hp := rc_no hc
    rw [X]
    clear X hc
    generalize rc S.pc 4 = r at *
    show Calls _ _ _ _ (OnePost w sb base db rb gb kb hb F0 vt 4 { S with bd := S.pc } b F0)
    clear M
    go_enter Tryz.func51, Tryz.ntmps51
    go_upto_region 1 with fail
    refine wp_region_phase 14 [(0, 0), (1, 0), (2, 0), (3, 1), (4, 0), (5, 0), (6, 0), (7, 1), (8, 2), (9, 0), (10, 0), (11, 0), (12, 0), (13, 0)] (fun W => W.cell? ⟨db, 0, none⟩ = some (.pointer (some ⟨rb, 0, none⟩)) ∧ W.cell? ⟨sb, 34, none⟩ = some (.int .u32 S.pc)) (by kernel_rfl) (by kernel_rfl) (fun _ _ _ d _ h => by cases d <;> exact h) ⟨c0, q34⟩ ?_
    repeat (first | (refine wpPlanZ_free (by rfl) (by rfl) (fun W => by (go_simp; try with_reducible rfl)) (fun K hK => ?_); go_simp; refine hK _ ?_; clear hK K) | (refine wpPlanZ_quiet (by rfl) (by rfl) (fun W hW => by (obtain ⟨c0, q34⟩ := hW; go_simp; try with_reducible rfl)) (fun K hK => ?_); go_simp; refine hK _ ?_; clear hK K))
    refine wpPlanZ_serial (by rfl) (by rfl) (fun K hK => ?_)
    go_simp
    refine hl.mono ?_
    rintro e_ w_ ⟨rfl, rfl⟩
    refine hK _ _ (fun _ => ⟨c0, q34⟩) ?_
    clear hK K
    repeat (first | (refine wpPlanZ_free (by rfl) (by rfl) (fun W => by (go_simp; try with_reducible rfl)) (fun K hK => ?_); go_simp; refine hK _ ?_; clear hK K))
    refine wpPlanZ_nil ?_
    have M1 : Hid (DMch w0 w.drew base sb db rb gb kb hb S b vt) := MH.out.stays (below_drew (Below.refl _ _))
    have K1 : Kept w w.drew (DM sb db gb hb vt) := Kept.drew _ _
    clear hl c0 q34
    generalize w.drew = W1 at *
    obtain ⟨-, -, q34, -, -, -, -, -, q40, -⟩ := M1.out.a.told
    have f40 := M1.out.a.fz 40
    have A1 := M1.out.a.putBd S.pc
    have KS : Kept W1 (W1.setCell ⟨sb, 40, none⟩ (.int .u32 S.pc)) (· = sb) := Kept.setCell _ _ _ _ rfl
    go_wp2
    go_ret
    exact ⟨rfl, vt, A1, M1.out.B.st KS M1.out.ap, K1.trans KS.dmS (fun _ _ h => h), Moved.refl _ _⟩
theorem doC_r0 (h : S.r 0 = 0) (b : Bs) : (doC S b).2.1.r 0 = 0 := by
  unfold doC
  split
  · exact h
  split
  · exact h
  · exact insP_r0 h _ _ _ _ _ _
theorem doC_ok (o : S.ok) (mb : ∀ i, 0 ≤ b.m i ∧ b.m i < 4294967296) (lb : u32 b.lamp) : (doC S b).2.1.ok := by
  unfold doC
  split
  · exact o
  split
  · exact St.ok_bd o o.pc
  · have hv : u32 (ld b.m S.pc 4 false) := by
      have := mb (S.pc / 4).toNat
      have h := ediv_bd (d := 2 ^ (bhd S.pc 4).toNat) this.1 (Int.pow_pos (by omega))
      exact wd_bd h.1 (by omega) _
    have g := K.x_rng (Tab.sh (decK (ld b.m S.pc 4 false))) (ld b.m S.pc 4 false) hv.1 hv.2
    exact insP_ok o mb lb _ _ _ _ g.2.2.2.1 (by have := g.2.2.2.2; omega)
set_option maxRecDepth 100000 in
set_option maxHeartbeats 8000000 in
theorem stepD_any (M : DMch w0 w base sb db rb gb kb hb S b vt) (hn : b.out.length ≤ 1000) (hn2 : b.tr.length ≤ 1000) (hct : S.ct + 1 < 9223372036854775807) :
    Calls Tryz.prog 14 #[.pointer (some ⟨sb, 0, none⟩), .pointer (some ⟨db, 0, none⟩)] w fun e w' => e = .returned (.int .i64 (stepP S b).1) ∧ ∃ vt', DMch w0 w' base sb db rb gb kb hb (stepP S b).2.1 (stepP S b).2.2 vt' ∧ Kept w w' (DM sb db gb hb vt) ∧ Moved w vt vt' := by
  have MH : Hid (DMch w0 w base sb db rb gb kb hb S b vt) := M
  have hP := doP_plain M.ok b
  have hD0 := doC_r0 M.r0 b
  have hDo := doC_ok M.ok M.B.D.d.mb M.lamp
  have hfin : stepP S b = ((doC S b).1, { (if (doC S b).1 = -1 then (doC S b).2.1 else excP (doC S b).2.1 (doC S b).1) with ct := S.ct + 1 }, (doC S b).2.2) := by unfold stepP; rw [hP.ct]
  have hdue := isDue_any M.a M.ok
  have hc0 := M.ok.c0
  have hone := fun (W : World) (X : DMch w0 W base sb db rb gb kb hb S b vt) => oneD_any X hn hn2
  have hdoi : intB S = true → doC S b = (0, S, b) := fun h => by unfold doC; rw [if_pos h]
  have fin : ∀ (w2 w5 : World) (S5 : St) (vt5 : Value), DBus w2 base db rb gb kb hb (doC S b).2.2 F0 F0 vt5 → Kept w w2 (DM sb db gb hb vt) → Moved w vt vt5 → StAt w5 sb S5 → S5.ok → Kept w2 w5 (· = sb) → S5 = { (if (doC S b).1 = -1 then (doC S b).2.1 else excP (doC S b).2.1 (doC S b).1) with ct := S.ct + 1 } → (Ending.returned (.int .i64 (doC S b).1) = .returned (.int .i64 (stepP S b).1) ∧ ∃ vt', DMch w0 w5 base sb db rb gb kb hb (stepP S b).2.1 (stepP S b).2.2 vt' ∧ Kept w w5 (DM sb db gb hb vt) ∧ Moved w vt vt') := by
    intro w2 w5 S5 vt5 B2 K2 M2 A5 o5 T5 e5
    have K5 : Kept w w5 (DM sb db gb hb vt) := K2.trans T5.dmS (fun _ _ h => h)
    rw [hfin]
    refine ⟨rfl, vt5, ⟨by rw [← e5]; exact A5, by rw [← e5]; exact o5, ?_, B2.st T5 MH.out.ap, hP.lamp MH.out.lamp, MH.out.ap, K5.below MH.out.be (Nat.le_refl _) MH.out.low, MH.out.l0, MH.out.l1, MH.out.l2, MH.out.l3⟩, K5, M2⟩
    show (if (doC S b).1 = -1 then (doC S b).2.1 else excP (doC S b).2.1 (doC S b).1).r 0 = 0
    split
    · exact hD0
    · rw [excP_r]; exact hD0
  have hct2 := hP.ct
  clear M hfin
  generalize doC S b = D at *
  cases hint : intB S with
  | true =>
    obtain rfl := hdoi hint
    rw [hint] at hdue
    clear hone hdoi
    go_enter Tryz.func14, Tryz.ntmps14
    go_wp2_with fail
    refine hdue.mono ?_
    rintro e w1 ⟨rfl, n, rfl⟩
    have M1 : Hid (DMch w0 (w.drewN n) base sb db rb gb kb hb S b vt) := MH.out.stays (below_drewN (Below.refl _ _) n)
    have K1 : Kept w (w.drewN n) (DM sb db gb hb vt) := Kept.of_below _ (below_drewN (Below.refl _ _) n)
    clear hdue
    generalize w.drewN n = W1 at *
    have hx := enter_any M1.out.a M1.out.ok 0 (by omega) (by omega)
    go_wp2_with fail
    refine hx.mono ?_
    rintro e w3 ⟨rfl, A3, T3⟩
    have q42 := A3.told.2.2.2.2.2.2.2.2.2.2
    rw [excP_ct] at q42
    have f42 := A3.fz 42
    have F := fin W1 _ _ vt M1.out.B K1 (Moved.refl _ _) (A3.putCt (S.ct + 1)) (St.ok_ctr (excP_ok M1.out.ok 0) (by omega) hct) (T3.put 42 _) (by rw [if_neg (by simp)])
    clear fin hx
    go_wp2
    go_ret
    exact F
  | false =>
    rw [hint] at hdue
    clear hdoi
    go_enter Tryz.func14, Tryz.ntmps14
    go_wp2_with fail
    refine hdue.mono ?_
    rintro e w1 ⟨rfl, n, rfl⟩
    have M1 : Hid (DMch w0 (w.drewN n) base sb db rb gb kb hb S b vt) := MH.out.stays (below_drewN (Below.refl _ _) n)
    have K1 : Kept w (w.drewN n) (DM sb db gb hb vt) := Kept.of_below _ (below_drewN (Below.refl _ _) n)
    clear hdue
    generalize w.drewN n = W1 at *
    have hone1 := hone W1 M1.out hint
    clear hone
    go_wp2_with fail
    refine hone1.mono ?_
    rintro e w2 ⟨rfl, vt2, A2, B2, T2, M2⟩
    have K2 : Kept w w2 (DM sb db gb hb vt) := K1.trans T2 (fun _ _ h => h)
    have MM : Moved w vt vt2 := fun k hk => (M2 k hk).imp id (fun e => Nat.le_trans K1.size e)
    have B2H : Hid (DBus w2 base db rb gb kb hb D.2.2 F0 F0 vt2) := B2
    clear hone1 B2
    by_cases he : D.1 = -1
    · have q42 := A2.told.2.2.2.2.2.2.2.2.2.2
      rw [hct2] at q42
      have f42 := A2.fz 42
      have F := fin w2 _ _ vt2 B2H.out K2 MM (A2.putCt (S.ct + 1)) (St.ok_ctr hDo (by omega) hct) ((Kept.refl w2 _).put 42 _) (by rw [if_pos he])
      rw [he] at F ⊢
      clear fin
      go_wp2
      go_ret
      exact F
    · have hcode : 0 ≤ D.1 ∧ D.1 < 32 := hP.code.resolve_left he
      obtain ⟨hc1, hc2⟩ := hcode
      have hx := enter_any A2 hDo D.1 hc1 hc2
      go_wp2_with fail
      refine hx.mono ?_
      rintro e w3 ⟨rfl, A3, T3⟩
      have q42 := A3.told.2.2.2.2.2.2.2.2.2.2
      rw [excP_ct, hct2] at q42
      have f42 := A3.fz 42
      have F := fin w2 _ _ vt2 B2H.out K2 MM (A3.putCt (S.ct + 1)) (St.ok_ctr (excP_ok hDo D.1) (by omega) hct) (T3.put 42 _) (by rw [if_neg he])
      clear fin hx
      go_wp2
      go_ret
      exact F
end
end Go.Proofs.YtflagpkmebdckaaGreatDoor
/-
  A processor and the document's, side by side: any state, any memory, step by step.
-/
namespace Go.Proofs.YtflagpkmebdckaaGreatDoor
open Go.RowKit Go.Maps
open Num
set_option linter.unusedVariables false
def PB (sb bb rb bp bw bh : Nat) (vo vt : Value) (k : Nat) : Prop := k = sb ∨ k = bb ∨ k = rb ∨ k = bp ∨ k = bw ∨ k = bh ∨ vo.ownBlock = some k ∨ vt.ownBlock = some k
def QB (sb db rb gb kb hb : Nat) (vt : Value) (k : Nat) : Prop := k = sb ∨ k = db ∨ k = rb ∨ k = gb ∨ k = kb ∨ k = hb ∨ vt.ownBlock = some k
section
variable {w0 w w1 w2 : World} {base sb bb rb bp bw bh N : Nat} {S : St} {b : Bs} {vo vt vo1 vt1 : Value} {base' sb' db rb' gb kb hb : Nat} {vt' vt2 : Value} {S1 : St} {b1 : Bs} {N1 : Nat}
theorem Mach.pb (M : Mach w0 w base sb bb rb bp bw bh N S b vo vt) {k : Nat} (h : PB sb bb rb bp bw bh vo vt k) : k < w.heap.size := by
  rcases h with h | h
  · subst h; exact M.a.lt
  · exact M.B.lt h
theorem DMch.qb (M : DMch w0 w base' sb' db rb' gb kb hb S b vt') {k : Nat} (h : QB sb' db rb' gb kb hb vt' k) : k < w.heap.size := by
  rcases h with h | h
  · subst h; exact M.a.lt
  · exact M.B.lt h
theorem XM.pb {k : Nat} (h : XM sb bb bp bh vo vt k) : PB sb bb rb bp bw bh vo vt k := by
  unfold PB; rcases h with h | h | h | h | h | h <;> simp [h]
theorem DM.qb {k : Nat} (h : DM sb' db gb hb vt' k) : QB sb' db rb' gb kb hb vt' k := by
  unfold QB; rcases h with h | h | h | h | h <;> simp [h]
theorem PB.moved {k : Nat} (h1 : Moved w vo vo1) (h2 : Moved w vt vt1) (h : PB sb bb rb bp bw bh vo1 vt1 k) : PB sb bb rb bp bw bh vo vt k ∨ w.heap.size ≤ k := by
  unfold PB
  rcases h with h | h | h | h | h | h | h | h
  · exact Or.inl (by simp [h])
  · exact Or.inl (by simp [h])
  · exact Or.inl (by simp [h])
  · exact Or.inl (by simp [h])
  · exact Or.inl (by simp [h])
  · exact Or.inl (by simp [h])
  · exact (h1 k h).imp (fun e => by simp [e]) id
  · exact (h2 k h).imp (fun e => by simp [e]) id
theorem QB.moved {k : Nat} (h1 : Moved w vt' vt2) (h : QB sb' db rb' gb kb hb vt2 k) : QB sb' db rb' gb kb hb vt' k ∨ w.heap.size ≤ k := by
  unfold QB
  rcases h with h | h | h | h | h | h | h
  · exact Or.inl (by simp [h])
  · exact Or.inl (by simp [h])
  · exact Or.inl (by simp [h])
  · exact Or.inl (by simp [h])
  · exact Or.inl (by simp [h])
  · exact Or.inl (by simp [h])
  · exact (h1 k h).imp (fun e => by simp [e]) id
/-- a processor and the document's, apart from one another -/
structure Twn (w0 w : World) (base sb bb rb bp bw bh N : Nat) (S : St) (b : Bs) (vo vt : Value) (base' sb' db rb' gb kb hb : Nat) (S' : St) (b' : Bs) (vt' : Value) : Prop where
  M : Mach w0 w base sb bb rb bp bw bh N S b vo vt
  D : DMch w0 w base' sb' db rb' gb kb hb S' b' vt'
  ap : ∀ k, PB sb bb rb bp bw bh vo vt k → ¬ QB sb' db rb' gb kb hb vt' k
theorem Twn.first (t : Twn w0 w base sb bb rb bp bw bh N S b vo vt base' sb' db rb' gb kb hb S b vt') (M1 : Mach w0 w1 base sb bb rb bp bw bh N1 S1 b1 vo1 vt1) (K : Kept w w1 (XM sb bb bp bh vo vt)) (m1 : Moved w vo vo1) (m2 : Moved w vt vt1) : Twn w0 w1 base sb bb rb bp bw bh N1 S1 b1 vo1 vt1 base' sb' db rb' gb kb hb S b vt' := by
  refine ⟨M1, t.D.kept K (fun h => t.ap _ (XM.pb h) (Or.inl rfl)) (fun k hk h => t.ap _ (XM.pb h) (Or.inr hk)) (fun k hk h => ?_), fun k hk hq => ?_⟩
  · have := t.M.l0; have := t.M.l1; have := t.M.l2; have := t.M.l3; have := t.M.lt
    rcases h with h | h | h | h | h | h
    · omega
    · omega
    · omega
    · omega
    · have := (t.M.B.ro.lt _ h).1; omega
    · have := (t.M.B.rt.lt _ h).1; omega
  · rcases PB.moved m1 m2 hk with h | h
    · exact t.ap k h hq
    · have := t.D.qb hq; omega
theorem Twn.second (t : Twn w0 w1 base sb bb rb bp bw bh N S1 b1 vo vt base' sb' db rb' gb kb hb S b vt') (D2 : DMch w0 w2 base' sb' db rb' gb kb hb S1 b1 vt2) (K : Kept w1 w2 (DM sb' db gb hb vt')) (m1 : Moved w1 vt' vt2) : Twn w0 w2 base sb bb rb bp bw bh N S1 b1 vo vt base' sb' db rb' gb kb hb S1 b1 vt2 := by
  refine ⟨t.M.kept K (fun h => t.ap _ (Or.inl rfl) (DM.qb h)) (fun k hk h => t.ap _ (Or.inr hk) (DM.qb h)) (fun k hk h => t.D.low k hk h), D2, fun k hk hq => ?_⟩
  rcases QB.moved m1 hq with h | h
  · exact t.ap k hk h
  · have := t.M.pb hk; omega
theorem Twn.stays {S' : St} {b' : Bs} (t : Twn w0 w base sb bb rb bp bw bh N S b vo vt base' sb' db rb' gb kb hb S' b' vt') (h : Below w.heap.size w w1) : Twn w0 w1 base sb bb rb bp bw bh N S b vo vt base' sb' db rb' gb kb hb S' b' vt' := ⟨t.M.stays h, t.D.stays h, t.ap⟩
end
theorem neq_st (S : St) (w : World) : (binOp .neq 25 (.agg (stA S)) (.agg (stA S))).run Tryz.prog w = .ok (.bool false) w := by
  have h := eq_st S w
  rw [run_eql_struct] at h
  rw [run_neq_struct]
  generalize Sem.run Tryz.prog (Op.equalIn 10000 25 (Value.agg (stA S)) (Value.agg (stA S))) w = r at *
  cases r with
  | ok b w' =>
    rw [Result.andThen_ok] at h ⊢
    injection h with h1 h2
    injection h1 with h1
    rw [h1, h2]; rfl
  | _ => exact absurd h (by simp [Result.andThen])
theorem exec_neq {ρ : Operand → Value} {o : Oper} {x y : Operand} {ty : TypeId} {SA : Array Value} (ho : o.op = .binOp .neq 25 x y ty) (hx : ρ x = .agg SA) (hy : ρ y = .agg SA) (W : World) (heq : (binOp .neq 25 (.agg SA) (.agg SA)).run Tryz.prog W = .ok (.bool false) W) : (execOp ρ o).run Tryz.prog W = .ok (.value (.bool false)) W := by
  have hg := run_eqGuard_agg (P := Tryz.prog) W .neq 25 x y SA SA guard32
  unfold execOp
  simp only [ho, hx, hy, Sem.run_bind, hg, Result.andThen_ok, heq]
  first | rfl | simp [go_sem]
theorem wpList_execW {ops : Array Oper} {Q : Exit → Act → World → Prop} {a : Act} {w : World} {rest : List Oper} {o : Oper} (v : Value) (hgd : Region.wanted o (yielded ops a.tmps) = true) (hx : (execOp a.eval o).run Tryz.prog w = .ok (.value v) w)
    (h : wpList Tryz.prog ops Q rest (a.put o.dst v) w) : wpList Tryz.prog ops Q (o :: rest) a w :=
  wpList_step fun K hK => by
    rw [if_pos hgd]
    unfold Oper.wp
    rw [hx, Oper.upon_value]
    exact hK _ _ h
theorem step_nil (p : Value) (w : World) : Calls Tryz.prog 13 #[.pointer none, p] w fun e w' => e = .returned (.int .i64 (-1)) ∧ w' = w := by
  have hc : Calls Tryz.prog 47 #[.pointer none, p] w fun e w' => e = .returned (.bool false) ∧ w' = w := by
    go_enter Tryz.func47, Tryz.ntmps47
    go_wp2
    go_ret
    exact ⟨rfl, rfl⟩
  go_enter Tryz.func13, Tryz.ntmps13
  go_wp2_with fail
  refine hc.mono ?_
  rintro e w' ⟨rfl, hw⟩
  rw [hw]
  clear hw w'
  go_wp2
  go_ret
  exact ⟨rfl, rfl⟩
theorem step_nobus (sb : Nat) (w : World) : Calls Tryz.prog 13 #[.pointer (some ⟨sb, 0, none⟩), .pointer none] w fun e w' => e = .returned (.int .i64 (-1)) ∧ w' = w := by
  have hc : Calls Tryz.prog 47 #[.pointer (some ⟨sb, 0, none⟩), .pointer none] w fun e w' => e = .returned (.bool false) ∧ w' = w := by
    go_enter Tryz.func47, Tryz.ntmps47
    go_wp2
    go_ret
    exact ⟨rfl, rfl⟩
  go_enter Tryz.func13, Tryz.ntmps13
  go_wp2_with fail
  refine hc.mono ?_
  rintro e w' ⟨rfl, hw⟩
  rw [hw]
  clear hw w'
  go_wp2
  go_ret
  exact ⟨rfl, rfl⟩
end Go.Proofs.YtflagpkmebdckaaGreatDoor
