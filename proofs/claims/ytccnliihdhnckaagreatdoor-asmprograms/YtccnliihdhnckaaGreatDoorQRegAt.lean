/-
  The document's answer's NumberAt at any place, registerAt, Word.
-/
import Derived.Test.YtccnliihdhnckaaGreatDoorQNumAtEnd
import Derived.Test.YtccnliihdhnckaaGreatDoorQNumAtMin
import Derived.Test.YtccnliihdhnckaaGreatDoorQNumAtPos
namespace Go.Proofs.YtccnliihdhnckaaGreatDoor
open Go.RowKit Go.Shelf Go.Joins
open Num Tab Fm Txt
set_option linter.unusedVariables false
theorem numAt_any (l : List UInt8) (hl : l.length ≤ 1000) (a : Nat) (ha : a ≤ l.length) (w : World) :
    Calls Tryz.prog 41 #[.string ⟨l.toArray⟩, .int .i64 a] w fun e w' => e = .returned (naV l a) ∧ w' = w := by
  rcases Nat.lt_or_ge a l.length with h | h
  · by_cases h45 : l[a] = 45
    · exact numAtMin l hl a h h45 w
    · exact numAtPos l hl a h h45 w
  · exact numAtEnd l hl a (by omega) w
def raV (l : List UInt8) (a : Nat) : Value := match regD (l.drop a) with | some (n, r) => .tuple #[.int .i64 n, .int .i64 ((l.length : Int) - r.length)] | none => bad
theorem rnum_rng {r r1 : List UInt8} {n : Int} (h : rnum r = some (n, r1)) : -10000000000 < n ∧ n < 10000000000 ∧ r1.length < r.length := by
  obtain ⟨e, a, b⟩ := (rnum_iff _ _ _).mp h
  refine ⟨by omega, by omega, ?_⟩
  rw [e, List.length_append]
  have : (Lib.itoa n).length ≠ 0 := by
    rcases int_cases n with ⟨u, rfl⟩ | ⟨u, h1, rfl⟩
    · rw [itoa_pos]; have := Txt.dec_ne u; intro h; exact this (List.eq_nil_of_length_eq_zero h)
    · rw [itoa_min u h1]; simp
  omega
set_option maxRecDepth 100000 in
set_option maxHeartbeats 2000000 in
theorem regAt_any (l : List UInt8) (hl : l.length ≤ 1000) (a : Nat) (ha : a ≤ l.length) (w : World) :
    Calls Tryz.prog 40 #[.string ⟨l.toArray⟩, .int .i64 a] w fun e w' => e = .returned (raV l a) ∧ w' = w := by
  have hl' : (l.length : Int) ≤ 1000 := by omega
  have a0 : (0 : Int) ≤ a := by omega
  have a1 : (a : Int) ≤ 1000 := by omega
  rcases Nat.lt_or_ge a l.length with h | h
  · have h' : ¬ (l.length : Int) ≤ a := by omega
    have hlt : (a : Int) < l.length := by omega
    have hia : ∀ h, (⟨l.toArray⟩ : ByteArray)[a]'h = l[a] := fun _ => rfl
    have hd : l.drop a = l[a] :: l.drop (a + 1) := List.drop_eq_getElem_cons h
    by_cases h36 : l[a] = 36
    · have e36 : ((l[a].toNat : Int) == 36) = true := by rw [h36]; decide
      have n36 : ((l[a].toNat : Int) != 36) = false := by rw [h36]; decide
      have hc := numAt_any l hl (a + 1) (by omega) w
      have HR : Hid (raV l a = match rnum (l.drop (a + 1)) with | some (n, r) => if n < 0 then bad else .tuple #[.int .i64 n, .int .i64 ((l.length : Int) - r.length)] | none => bad) := by
        show raV l a = _
        unfold raV regD
        rw [hd, h36]
        simp only [strip, if_true, regS]
        cases rnum (l.drop (a + 1)) with
        | none => rfl
        | some x =>
          obtain ⟨n, r⟩ := x
          by_cases hn : n < 0 <;> simp [hn]
      have hnv : naV l (a + 1) = match rnum (l.drop (a + 1)) with | some (n, r) => .tuple #[.int .i64 n, .int .i64 ((l.length : Int) - r.length)] | none => bad := rfl
      clear hd
      rw [show ((a + 1 : Nat) : Int) = (a : Int) + 1 by omega] at hc
      cases hr : rnum (l.drop (a + 1)) with
      | none =>
        rw [hr] at hnv HR
        rw [hnv] at hc
        clear hnv hr h36
        unfold bad at hc
        go_enter Tryz.func40, Tryz.ntmps40
        go_wp2_with (go_at_call 41; refine hc.mono ?_; rintro e w' ⟨rfl, rfl⟩)
        go_ret2
        exact ⟨by rw [HR.out]; rfl, rfl⟩
      | some x =>
        obtain ⟨n, r⟩ := x
        have hrg := rnum_rng hr
        have r1 : (r.length : Int) ≤ l.length := by have := hrg.2.2; rw [List.length_drop] at this; omega
        rw [hr] at hnv HR
        rw [hnv] at hc
        clear hnv hr h36
        obtain ⟨n0, n1, -⟩ := hrg
        by_cases hn : n < 0
        · have HR2 : Hid (raV l a = bad) := by show raV l a = _; rw [HR.out]; simp only; rw [if_pos hn]
          go_enter Tryz.func40, Tryz.ntmps40
          go_wp2_with (go_at_call 41; refine hc.mono ?_; rintro e w' ⟨rfl, rfl⟩)
          go_ret2
          exact ⟨by rw [HR2.out]; rfl, rfl⟩
        · have HR2 : Hid (raV l a = .tuple #[.int .i64 n, .int .i64 ((l.length : Int) - r.length)]) := by show raV l a = _; rw [HR.out]; simp only; rw [if_neg hn]
          go_enter Tryz.func40, Tryz.ntmps40
          go_wp2_with (go_at_call 41; refine hc.mono ?_; rintro e w' ⟨rfl, rfl⟩)
          go_ret2
          exact ⟨by rw [HR2.out]; rfl, rfl⟩
    · have n36 : ((l[a].toNat : Int) != 36) = true := by
        have : ¬ l[a].toNat = 36 := fun e => h36 (UInt8.toNat_inj.mp e)
        simp; omega
      have HR : Hid (raV l a = bad) := by
        show raV l a = bad
        unfold raV regD
        rw [hd]
        simp only [strip, h36, if_false]
      clear hd h36
      go_enter Tryz.func40, Tryz.ntmps40
      go_wp2
      go_ret2
      exact ⟨by rw [HR.out]; rfl, rfl⟩
  · have h' : (l.length : Int) ≤ a := by omega
    have HR : Hid (raV l a = bad) := by
      show raV l a = bad
      unfold raV regD
      rw [List.drop_of_length_le h]; rfl
    go_enter Tryz.func40, Tryz.ntmps40
    go_wp2
    go_ret2
    exact ⟨by rw [HR.out]; rfl, rfl⟩
end Go.Proofs.YtccnliihdhnckaaGreatDoor
