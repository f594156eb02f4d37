/-
  Package asm's reading of numbers and names: operation, number, read; what they read of the program's variables.
-/
import Derived.Test.YtccnliihdhnckaaGreatDoorShelf
import Derived.Test.YtccnliihdhnckaaGreatDoorAsm1
import Derived.Test.YtccnliihdhnckaaGreatDoorCode
import Derived.Lib.SmallJoins
import Derived.Lib.ParseIntBTie
import Derived.Lib.AppendIntMem
namespace Go.Proofs.YtccnliihdhnckaaGreatDoor
open Go.RowKit Go.Shelf Go.Joins
open Num Tab Fm Txt
set_option linter.unusedVariables false
theorem Tryz.gPow : Tryz.prog.globalNamed "internal/strconv.uint64pow10" = some 13 := by kernel_rfl
theorem Tryz.gSyn : Tryz.prog.globalNamed "strconv.ErrSyntax" = some 19 := by kernel_rfl
theorem Tryz.gRng : Tryz.prog.globalNamed "strconv.ErrRange" = some 20 := by kernel_rfl
/-- what the texts' functions read of the program's variables -/
structure Lb (w : World) : Prop where
  nm : ∀ i : Nat, i < 54 → w.cell? ⟨0, i, none⟩ = some (.string ⟨(nme i).toArray⟩)
  tab : Lib.TabIs Tryz.prog w "internal/strconv.uint64pow10" .u64 Lib.pow10Tab
  syn : ∃ tp p, w.var? Tryz.prog "strconv.ErrSyntax" = some #[.iface tp p]
  rng : ∃ tp p, w.var? Tryz.prog "strconv.ErrRange" = some #[.iface tp p]
  mx : ∃ m, w.cell? ⟨14, 0, none⟩ = some (.int .i64 m)
theorem Lb.stays {w w' : World} {B : Nat} (b : Lb w) (h : Below B w w') (hB : w.heap.size ≤ B) : Lb w' where
  nm := fun i hi => cell_stays h hB (b.nm i hi)
  tab := tab_stays Tryz.gPow b.tab h hB
  syn := let ⟨tp, p, e⟩ := b.syn; ⟨tp, p, var_stays Tryz.gSyn e h hB⟩
  rng := let ⟨tp, p, e⟩ := b.rng; ⟨tp, p, var_stays Tryz.gRng e h hB⟩
  mx := let ⟨m, e⟩ := b.mx; ⟨m, cell_stays h hB e⟩
theorem fmt_any (n : Int) (h0 : -9223372036854775808 ≤ n) (h1 : n ≤ 9223372036854775807) (w : World) (b : Lb w) :
    Calls Tryz.prog 28 #[.int .i64 n, .int .i64 10] w fun e w' => e = .returned (.string ⟨(Lib.itoa n).toArray⟩) ∧ Below w.heap.size w w' := by
  have h := Any.strconv_FormatInt_10 Tryz.l173 n h0 h1 w b.tab
  refine Calls.mono h ?_
  rintro e w' ⟨he, k, os, rfl⟩
  exact ⟨he, Lib.below_grow _ w (Nat.le_refl _) k os⟩
def numR (l : List UInt8) : Value := match pnum l with | some n => .tuple #[.int .i64 n, .bool true] | none => .tuple #[.int .i64 0, .bool false]
theorem trimP_any (l p : List UInt8) (w : World) : Calls Tryz.prog 98 #[.string ⟨l.toArray⟩, .string ⟨p.toArray⟩] w fun e w' => e = .returned (.string ⟨(Lib.trimPrefix l p).toArray⟩) ∧ w' = w :=
  Any.strings_TrimPrefix Tryz.l101 ⟨l.toArray⟩ ⟨p.toArray⟩ w
theorem parseI_ok (l : List UInt8) (hl : l.length ≤ 281474976710656) (v : Int) (h : Lib.parseIntB 64 l = .ok v) (w : World) :
    Calls Tryz.prog 99 #[.string ⟨l.toArray⟩, .int .i64 10, .int .i64 64] w fun e w' => e = .returned (.tuple #[.int .i64 v, .nilIface]) ∧ Below w.heap.size w w' := by
  have h := Any.strconv_ParseInt_10_at64_ok Tryz.l174 ⟨l.toArray⟩ (by show l.toArray.size ≤ _; simp; omega) v h w
  refine Calls.mono h ?_
  rintro e w' ⟨he, hw⟩
  refine ⟨he, ?_⟩
  rcases hw with rfl | ⟨t, rfl⟩
  · exact Below.refl _ _
  · exact Lib.bytesWorld_below w _ t
theorem parseI_bad (l : List UInt8) (hl : l.length ≤ 281474976710656) (h : ∀ v, Lib.parseIntB 64 l ≠ .ok v) (w : World) (b : Lb w) :
    Calls Tryz.prog 99 #[.string ⟨l.toArray⟩, .int .i64 10, .int .i64 64] w fun e w' => ∃ (v : Int) (N : Nat) (t : TypeId), e = .returned (.tuple #[.int .i64 v, .iface t (.pointer (some ⟨N, 0, none⟩))]) ∧ Below w.heap.size w w' := by
  obtain ⟨tp, p, hs⟩ := b.syn
  obtain ⟨tq, q, hr⟩ := b.rng
  rcases hp : Lib.parseIntB 64 l with v | _ | _
  · exact absurd hp (h v)
  · have g := Any.strconv_ParseInt_10_at64_syntax_var Tryz.l174 ⟨l.toArray⟩ (by show l.toArray.size ≤ _; simp; omega) hp tp p w hs
    refine Calls.mono g ?_
    rintro e w' ⟨N, he, hN, hc, hb⟩
    exact ⟨_, N, _, he, hb⟩
  · have g := Any.strconv_ParseInt_10_at64_range_var Tryz.l174 ⟨l.toArray⟩ (by show l.toArray.size ≤ _; simp; omega) hp tq q w hr
    refine Calls.mono g ?_
    rintro e w' ⟨N, he, hN, hc, hb⟩
    exact ⟨_, N, _, he, hb⟩
set_option maxHeartbeats 1000000 in
theorem number_any (l : List UInt8) (hl : l.length ≤ 281474976710656) (w : World) (b : Lb w) :
    Calls Tryz.prog 70 #[.string ⟨l.toArray⟩] w fun e w' => e = .returned (numR l) ∧ Below w.heap.size w w' := by
  have hB : Hid (Lb w) := b
  clear b
  by_cases h10 : 10 < ((Lib.trimPrefix l [45]).length : Int)
  · have e : numR l = .tuple #[.int .i64 0, .bool false] := by unfold numR pnum; rw [if_pos (by omega)]
    rw [e]
    go_enter Tryz.func70, Tryz.ntmps70
    go_wp2_with (go_at_call 98; refine (trimP_any l [45] _).mono ?_; rintro e w' ⟨rfl, rfl⟩)
    go_ret2
    exact ⟨rfl, Below.refl _ _⟩
  · by_cases hp : ∃ v, Lib.parseIntB 64 l = .ok v
    · obtain ⟨v, hp⟩ := hp
      have hv := Lib.parseIntB_bounds hp
      have hv0 : -9223372036854775808 ≤ v := by have := hv.1; simpa using this
      have hv1 : v ≤ 9223372036854775807 := by have := hv.2; simp at this; omega
      clear hv
      have e : Hid (numR l = if Lib.itoa v = l then .tuple #[.int .i64 v, .bool true] else .tuple #[.int .i64 0, .bool false]) := by
        show numR l = _
        unfold numR pnum; rw [if_neg (by omega), hp]; simp only
        by_cases hi : Lib.itoa v = l <;> simp only [hi, if_true, if_false]
      have HP : Hid (Lib.parseIntB 64 l = .ok v) := hp
      clear hp
      go_enter Tryz.func70, Tryz.ntmps70
      go_wp2_with (first | (go_at_call 98; refine (trimP_any l [45] _).mono ?_; rintro e w' ⟨rfl, rfl⟩) | (go_at_call 99; refine (parseI_ok l hl v HP.out _).mono ?_; rintro e w1 ⟨rfl, hb1⟩) | (go_at_call 28; refine (fmt_any v hv0 hv1 _ (hB.out.stays hb1 (Nat.le_refl _))).mono ?_; rintro e w2 ⟨rfl, hb2⟩))
      · have h : (!Lib.itoa v == l) = true := by assumption
        have h : ¬ Lib.itoa v = l := by simpa using h
        go_ret2
        refine ⟨?_, hb1.trans (hb2.mono hb1.size)⟩
        rw [e.out, if_neg h]; rfl
      · have h : (!Lib.itoa v == l) = false := by assumption
        have h : Lib.itoa v = l := by simpa using h
        go_ret2
        refine ⟨?_, hb1.trans (hb2.mono hb1.size)⟩
        rw [e.out, if_pos h]; rfl
    · have e : numR l = .tuple #[.int .i64 0, .bool false] := by
        unfold numR pnum; rw [if_neg (by omega)]
        rcases hh : Lib.parseIntB 64 l with v | _ | _
        · exact absurd ⟨v, hh⟩ hp
        · rfl
        · rfl
      rw [e]
      have HP : Hid (∀ v, Lib.parseIntB 64 l ≠ .ok v) := fun v hv => hp ⟨v, hv⟩
      clear hp
      go_enter Tryz.func70, Tryz.ntmps70
      go_wp2_with (first | (go_at_call 98; refine (trimP_any l [45] _).mono ?_; rintro e w' ⟨rfl, rfl⟩) | (go_at_call 99; refine (parseI_bad l hl HP.out _ hB.out).mono ?_; rintro e w1 ⟨v, n, t, rfl, hb1⟩))
      go_ret2
      exact ⟨rfl, hb1⟩
/-- the names' search -/
theorem nme_step (l : List UInt8) (i : Nat) (h : ∀ j, 1 ≤ j → j < i → nme j ≠ l) (hn : ¬ nme i = l) : ∀ j, 1 ≤ j → j < i + 1 → nme j ≠ l := by
  intro j h1 h2
  rcases Nat.lt_or_ge j i with g | g
  · exact h j h1 g
  · have : j = i := by omega
    subst this; exact hn
set_option maxHeartbeats 1000000 in
theorem oper_nm (l : List UInt8) (w : World) (b : Lb w) :
    Calls Tryz.prog 35 #[.string ⟨l.toArray⟩] w fun e w' => e = .returned (.int .i64 (opOf l)) ∧ ∃ n, w' = w.drewN n := by
  have hnm : Hid (∀ i : Nat, i < 54 → w.cell? ⟨0, i, none⟩ = some (.string ⟨(nme i).toArray⟩)) := b.nm
  clear b
  go_enter Tryz.func35, Tryz.ntmps35
  go_wp2
  go_loopw [3] (fun a wr => ∃ (i : Nat), a = .int .i64 i ∧ 1 ≤ i ∧ i ≤ 54 ∧ Hid (∀ j, 1 ≤ j → j < i → nme j ≠ l) ∧ ∃ n, wr = w.drewN n) (fun a _ => 54 - (intOf a).toNat)
  case atStart => exact ⟨1, rfl, by omega, by omega, fun j h1 h2 => by omega, 0, rfl⟩
  case round =>
    obtain ⟨i, rfl, hi1, hi2, HI, n, rfl⟩ := hrel
    by_cases hlt : (i : Int) < 54
    · have hc : w.cell? ⟨0, i, none⟩ = some (.string ⟨(nme i).toArray⟩) := hnm.out i (by omega)
      have i0 : (0 : Int) ≤ i := by omega
      generalize hq : nme i = q at *
      by_cases hn : q = l
      · subst hn
        have ho : Hid ((opOf q : Int) = i) := by show (opOf q : Int) = i; rw [← hq, opOf_nme i (by omega) (by omega)]
        go_wp2
        go_ret
        refine ⟨?_, _, rfl⟩
        rw [ho.out]; rfl
      · have hb : (q == l) = false := by simpa using hn
        go_wp2
        go_roundw
        case rel => exact ⟨i + 1, by go_num, by omega, by omega, nme_step l i HI.out (by rw [hq]; exact hn), _, rfl⟩
        case measure => simp [intOf]; omega
    · have e : i = 54 := by omega
      subst e
      go_wp2
      go_ret
      refine ⟨?_, _, rfl⟩
      have : opOf l = 0 := isNm_one (opOf_is l) (Or.inr ⟨rfl, HI.out⟩)
      rw [this]; rfl
end Go.Proofs.YtccnliihdhnckaaGreatDoor
