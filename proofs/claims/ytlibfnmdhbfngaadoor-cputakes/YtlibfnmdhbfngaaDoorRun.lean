/-
  Steps, one behind the other; the closed fact.
-/
import Derived.Test.YtlibfnmdhbfngaaDoorStep
namespace Go.Proofs.YtlibfnmdhbfngaaDoor
open Go.RowKit Go.Maps
open Num
set_option linter.unusedVariables false
def runP : Nat → St → Bs → St × Bs
  | 0, S, b => (S, b)
  | n + 1, S, b => ((stepP (runP n S b).1 (runP n S b).2).2.1, (stepP (runP n S b).1 (runP n S b).2).2.2)
theorem runP_add (S : St) (b : Bs) (a : Nat) : ∀ c, runP (a + c) S b = runP c (runP a S b).1 (runP a S b).2
  | 0 => rfl
  | c + 1 => by show runP (a + c + 1) S b = _; simp only [runP]; rw [runP_add S b a c]
theorem stepP_ct {S : St} (o : S.ok) (b : Bs) : (stepP S b).2.1.ct = S.ct + 1 := by show (doP S b).2.1.ct + 1 = _; rw [(doP_plain o b).ct]
theorem stepP_out {S : St} (o : S.ok) (b : Bs) : (stepP S b).2.2.out.length ≤ b.out.length + 1 ∧ (stepP S b).2.2.tr.length ≤ b.tr.length + 1 := ⟨(doP_plain o b).out, (doP_plain o b).tr⟩
theorem XM_moved {w : World} {sb bb bp bh : Nat} {vo vt vo' vt' : Value} (h1 : Moved w vo vo') (h2 : Moved w vt vt') (k : Nat) (hk : k < w.heap.size) (h : XM sb bb bp bh vo' vt' k) : XM sb bb bp bh vo vt k := by
  rcases h with h | h | h | h | h | h
  · exact Or.inl h
  · exact Or.inr (Or.inl h)
  · exact Or.inr (Or.inr (Or.inl h))
  · exact Or.inr (Or.inr (Or.inr (Or.inl h)))
  · rcases h1 k h with e | e
    · exact Or.inr (Or.inr (Or.inr (Or.inr (Or.inl e))))
    · omega
  · rcases h2 k h with e | e
    · exact Or.inr (Or.inr (Or.inr (Or.inr (Or.inr e))))
    · omega
/-- what holds between two steps -/
structure RunAt (w0 w wr : World) (base sb bb rb bp bw bh N : Nat) (S : St) (b : Bs) (vo vt : Value) (j : Nat) : Prop where
  h : ∃ N' vo' vt', N' ≤ N + 2 * j ∧ Mach w0 wr base sb bb rb bp bw bh N' (runP j S b).1 (runP j S b).2 vo' vt' ∧ Kept w wr (XM sb bb bp bh vo vt) ∧ Moved w vo vo' ∧ Moved w vt vt'
  o : (runP j S b).2.out.length ≤ b.out.length + j
  t : (runP j S b).2.tr.length ≤ b.tr.length + j
  c : (runP j S b).1.ct = S.ct + j
section
variable {w0 w : World} {base sb bb rb bp bw bh N : Nat} {S : St} {b : Bs} {vo vt : Value}
set_option maxHeartbeats 8000000 in
theorem run_any (ps pa pf pk pn : Addr) (E : Er ps pa pf w0) (T : K.Tb pk pn w0) (M : Mach w0 w base sb bb rb bp bw bh N S b vo vt) (n : Nat) (hn : n ≤ 400) (hn0 : b.out.length ≤ 500) (hn1 : b.tr.length ≤ 500) (hN : N ≤ 1000000) (hc0 : 0 ≤ S.ct) (hct : S.ct ≤ 2000000000000) :
    Calls Tryd.prog 9 #[.pointer (some ⟨sb, 0, none⟩), .pointer (some ⟨bb, 0, none⟩), .int .i64 n] w fun e w' => e = .returned (.int .i64 n) ∧ RunAt w0 w w' base sb bb rb bp bw bh N S b vo vt n := by
  have hcan := can_any M
  have R0 : RunAt w0 w w base sb bb rb bp bw bh N S b vo vt 0 := ⟨⟨N, vo, vt, by omega, M, Kept.refl _ _, Moved.refl _ _, Moved.refl _ _⟩, by show b.out.length ≤ _; omega, by show b.tr.length ≤ _; omega, by show S.ct = _; omega⟩
  have EH : Hid (Er ps pa pf w0) := E
  have TH : Hid (K.Tb pk pn w0) := T
  clear M E T
  have hn' : (n : Int) ≤ 400 := by omega
  go_enter Tryd.func9, Tryd.ntmps9
  go_wp2_with (go_at_call 19; refine hcan.mono ?_; rintro e w' ⟨rfl, hw'⟩; rw [hw']; clear hw' w')
  clear hcan
  go_loopw [18] (fun iv wr => ∃ j : Nat, j ≤ n ∧ iv = .int .i64 j ∧ RunAt w0 w wr base sb bb rb bp bw bh N S b vo vt j) (fun iv _ => n - (intOf iv).toNat)
  case atStart => exact ⟨0, by omega, rfl, R0⟩
  case round =>
    clear R0
    obtain ⟨j, hj, rfl, R⟩ := hrel
    by_cases hlt : j < n
    · have hlt' : (j : Int) < n := by omega
      obtain ⟨⟨N', vo', vt', hN', M, K, M1, M2⟩, ho, ht, hc⟩ := R
      have hs := step_any ps pa pf pk pn EH.out TH.out M (by omega) (by omega) (by unfold maxLen; omega) (by omega)
      have hso := stepP_out M.ok (runP j S b).2
      have hsc := stepP_ct M.ok (runP j S b).2
      go_wp2_with fail
      refine hs.mono ?_
      rintro e w2 ⟨rfl, N2, vo2, vt2, hN2, M2', K2, M3, M4⟩
      have R2 : RunAt w0 w w2 base sb bb rb bp bw bh N S b vo vt (j + 1) := by
        refine ⟨⟨N2, vo2, vt2, by omega, M2', K.trans K2 (XM_moved M1 M2), M1.trans M3 K.size, M2.trans M4 K.size⟩, ?_, ?_, ?_⟩
        · show (stepP _ _).2.2.out.length ≤ _; omega
        · show (stepP _ _).2.2.tr.length ≤ _; omega
        · show (stepP _ _).2.1.ct = _; rw [hsc, hc]; omega
      clear hs M M2' K K2 M1 M2 M3 M4
      go_wp2
      go_roundw
      case rel => exact ⟨j + 1, by omega, by go_num, R2⟩
      case measure => simp [intOf]; omega
    · have hlt' : ¬ (j : Int) < n := by omega
      obtain rfl : j = n := by omega
      go_wp2
      go_ret
      exact ⟨ret_int (by omega), R⟩
theorem run_none (M : Mach w0 w base sb bb rb bp bw bh N S b vo vt) : Calls Tryd.prog 9 #[.pointer (some ⟨sb, 0, none⟩), .pointer (some ⟨bb, 0, none⟩), .int .i64 (-1)] w fun e w' => e = .returned (.int .i64 0) ∧ w' = w := by
  have hcan := can_any M
  clear M
  go_enter Tryd.func9, Tryd.ntmps9
  go_wp2_with (go_at_call 19; refine hcan.mono ?_; rintro e w' ⟨rfl, rfl⟩)
  go_ret
  exact ⟨rfl, rfl⟩
end
set_option maxRecDepth 100000 in
set_option maxHeartbeats 1000000 in
theorem newBus_all {w : World} {v : Value} {xs : List Int} (X : WordsIn w v xs) (hx : xs.length ≤ 5000) :
    Calls Tryd.prog 8 #[v] w fun e w' => ∃ bb sb bp bw bh : Nat, e = .returned (.pointer (some ⟨bb, 0, none⟩)) ∧ NewBus w' bb sb bp bw bh xs ∧ Below w.heap.size w w' ∧ (w.heap.size ≤ bb ∧ w.heap.size ≤ sb ∧ w.heap.size ≤ bp ∧ w.heap.size ≤ bw ∧ w.heap.size ≤ bh) := by
  have hnw := new_ex2 X hx
  clear X hx
  go_enter Tryd.func8, Tryd.ntmps8
  go_wp2_with fail
  refine hnw.mono ?_
  rintro e w1 ⟨sb, bp, bw, bh, rfl, R, hb, l1, l2, l3, l4⟩
  clear hnw
  go_wp2
  go_ret
  have hA : Below w1.heap.size w1 (w1.alloc (.cells #[.pointer (some ⟨sb, 0, none⟩), .slice none 0 0, .int .u32 0, .slice none 0 0] 51)) := (Below.refl _ _).alloc (Nat.le_refl _) _
  have l := R.lt
  have hz := hb.size
  exact ⟨w1.heap.size, sb, bp, bw, bh, rfl, ⟨by simp, by simp, by simp, by simp, fun j => by simp, R.stays hA (Nat.le_refl _), by omega, by omega, by omega, by omega⟩, hb.trans (hA.mono hz), hz, l1, l2, l3, l4⟩
/-- a new state and a new bus -/
theorem mach_new {w0 w1 w2 : World} {sb bb rb bp bw bh : Nat} {pc : Int} {xs : List Int} (hpc : u32 pc) (b1 : Below w0.heap.size w0 w1) (A : StAt w1 sb (St.new pc)) (l0 : w0.heap.size ≤ sb) (NB : NewBus w2 bb rb bp bw bh xs) (b2 : Below w1.heap.size w1 w2) (lb : w1.heap.size ≤ bb ∧ w1.heap.size ≤ rb ∧ w1.heap.size ≤ bp ∧ w1.heap.size ≤ bw ∧ w1.heap.size ≤ bh) :
    Mach w0 w2 w2.heap.size sb bb rb bp bw bh 64 (St.new pc) ⟨mw xs, [], 0, []⟩ (.slice none 0 0) (.slice none 0 0) := by
  have h := A.lt
  have z := b1.size
  have z2 := b2.size
  exact ⟨A.stays b2, St.new_ok hpc, NB.is, ⟨by show (0:Int) ≤ 0; omega, by show (0:Int) < _; omega⟩, by omega, by omega, by omega, by omega, by omega, by omega, b1.trans (b2.mono b1.size), l0, by omega, by omega, by omega⟩

/-! the closed fact -/
def stepB : Bs := ⟨mw [604045319], [], 0, []⟩
theorem step_ld : ld (mw [604045319]) 0 4 false = 604045319 := by decide +kernel
theorem step_dec : decK 604045319 = 36 := by decide +kernel
theorem step_do : doP (St.new 0) stepB = (-1, ((St.new 0).set 1 7).on, stepB) := by
  unfold doP
  rw [if_neg (by decide), if_neg (by decide)]
  show insP (St.new 0) stepB (decK (ld (mw [604045319]) 0 4 false)) (Tab.xs (Tab.sh (decK (ld (mw [604045319]) 0 4 false))) (ld (mw [604045319]) 0 4 false)).toNat (Tab.xt (Tab.sh (decK (ld (mw [604045319]) 0 4 false))) (ld (mw [604045319]) 0 4 false)).toNat (Tab.xd (Tab.sh (decK (ld (mw [604045319]) 0 4 false))) (ld (mw [604045319]) 0 4 false)).toNat (Tab.xm (Tab.sh (decK (ld (mw [604045319]) 0 4 false))) (ld (mw [604045319]) 0 4 false)) = _
  rw [step_ld, step_dec]
  rw [show (Tab.xs (Tab.sh 36) 604045319).toNat = 0 by decide +kernel, show (Tab.xt (Tab.sh 36) 604045319).toNat = 1 by decide +kernel, show (Tab.xd (Tab.sh 36) 604045319).toNat = 0 by decide +kernel, show Tab.xm (Tab.sh 36) 604045319 = 7 by decide +kernel]
  unfold insP
  rw [if_neg (by decide), if_neg (by decide), if_neg (by decide), if_neg (by decide)]
  unfold sumP
  rw [if_neg (by decide), if_neg (by decide), if_neg (by decide), if_neg (by decide), if_neg (by decide)]
  rfl
set_option maxRecDepth 100000 in
set_option maxHeartbeats 4000000 in
theorem stepped_any (ps pa pf pk pn : Addr) {w : World} (E : Er ps pa pf w) (T : K.Tb pk pn w) : Calls Tryd.prog 6 #[] w fun e w' => e = .returned (.bool true) ∧ Below w.heap.size w w' := by
  have EH : Hid (Er ps pa pf w) := E
  have TH : Hid (K.Tb pk pn w) := T
  clear E T
  go_enter Tryd.func6, Tryd.ntmps6
  go_wp2_with fail
  refine (newSt_any 0 ⟨by omega, by omega⟩ _).mono ?_
  rintro e w1 ⟨sb, rfl, A1, b1, l1⟩
  go_wp2_with fail
  have X : WordsIn (w1.alloc (.cells #[.int .u32 604045319] 23)) (.slice (some ⟨w1.heap.size, 0, none⟩) 1 1) [604045319] := by
    refine ⟨⟨_, 1, rfl, by simp, fun _ => ⟨w1.heap.size, 0, rfl, fun i hi => ?_⟩⟩, mw_wf _ (by simp)⟩
    have : i = 0 := by simp at hi; omega
    subst this
    simp
  have hA : Below w1.heap.size w1 (w1.alloc (.cells #[.int .u32 604045319] 23)) := (Below.refl _ _).alloc (Nat.le_refl _) _
  refine (newBus_all X (by simp)).mono ?_
  rintro e w2 ⟨bb, rb, bp, bw, bh, rfl, NB, b2, lb⟩
  have M := mach_new (w0 := w) ⟨by omega, by omega⟩ (b1.trans (hA.mono b1.size)) (A1.stays hA) l1 NB b2 lb
  have hs := step_any ps pa pf pk pn EH.out TH.out M (by simp) (by simp) (by unfold maxLen; omega) (by show (0:Int) + 1 < _; omega)
  clear X hA A1 b1 b2 NB lb l1
  go_wp2_with fail
  refine hs.mono ?_
  rintro e w3 ⟨rfl, N', vo', vt', hN', M3, K3, _, _⟩
  have hD := step_do
  have e1 : (stepP (St.new 0) ⟨mw [604045319], [], 0, []⟩).1 = -1 := by show (doP (St.new 0) stepB).1 = -1; rw [hD]
  have eS : (stepP (St.new 0) ⟨mw [604045319], [], 0, []⟩).2.1 = { ((St.new 0).set 1 7).on with ct := 1 } := by
    show ({ (if (doP (St.new 0) stepB).1 = -1 then (doP (St.new 0) stepB).2.1 else excP (doP (St.new 0) stepB).2.1 (doP (St.new 0) stepB).1) with ct := (doP (St.new 0) stepB).2.1.ct + 1 } : St) = _
    rw [hD]
    rfl
  have A3 := M3.a
  have be := M3.be
  rw [eS] at A3
  rw [e1]
  have q1 : w3.cell? ⟨sb, 1, none⟩ = some (.int .u32 7) := A3.reg (by omega)
  have q34 : w3.cell? ⟨sb, 34, none⟩ = some (.int .u32 4) := A3.told.2.2.1
  have q35 : w3.cell? ⟨sb, 35, none⟩ = some (.int .u32 8) := A3.told.2.2.2.1
  have q42 : w3.cell? ⟨sb, 42, none⟩ = some (.int .i64 1) := A3.told.2.2.2.2.2.2.2.2.2.2
  clear A3 M3 K3 M hs hD e1 eS
  go_wp2
  go_ret
  exact ⟨rfl, be⟩
end Go.Proofs.YtlibfnmdhbfngaaDoor
