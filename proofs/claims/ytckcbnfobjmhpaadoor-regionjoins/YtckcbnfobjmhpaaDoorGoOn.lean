/-
  A region goes on by what stands next, or ends.
-/
import Derived.Test.YtckcbnfobjmhpaaDoorLk3
import Derived.Test.YtckcbnfobjmhpaaDoorTake
namespace Go.Proofs.YtckcbnfobjmhpaaDoor
open Go.RowKit Go.Maps
open Num
set_option linter.unusedVariables false
section
variable {w0 w : World} {fb : Nat} {pc : Int} {sb most n st bp bw bh N : Nat} {m : Nat → Int} {wt ht : Int → Bool} {vi : Value}
/-- what a region's forming hangs on -/
structure Gd (ps pa pf pk pb : Addr) (w0 : World) (sb bp bw bh N : Nat) (m : Nat → Int) (wt ht : Int → Bool) (pc : Int) (most : Nat) : Prop where
  E : Er ps pa pf w0
  T : K.Tb pk pb w0
  R : RamIs w0 sb bp bw bh N m wt ht
  p0 : 0 ≤ pc
  p1 : pc < 16384
  p4 : pc % 4 = 0
  mo : most ≤ 24
variable {ps pa pf pk pb : Addr}
theorem look_no (G : Gd ps pa pf pk pb w0 sb bp bw bh N m wt ht pc most) (F : FAt w0 w fb pc sb most n st m vi) (fu : Nat) (hn : n ≤ most) (hfu : fu ≤ 1) (hst : st ≤ 8) (h : lkP (kdAt m pc) (many pc) most (n + fu) st = false) :
    Calls Tryd.prog 67 #[.pointer (some ⟨fb, 0, none⟩), .int .i64 fu] w fun e w' => ∃ i0 i1 i2 i3 i4 s, e = .returned (.tuple #[K.ins i0 i1 i2 i3 i4, .string s, .bool false]) ∧ Below w.heap.size w w' := by
  have := G.mo
  by_cases h1 : n + fu < most
  · by_cases h2 : n + fu < many pc
    · refine (look_in pk pb G.T G.R F fu G.p0 G.p1 G.p4 (by omega) hfu G.mo hst h1 h2).mono ?_
      rintro e w' ⟨rfl, hb⟩
      exact ⟨_, _, _, _, _, _, by rw [h]; rfl, hb⟩
    · refine (look_far ps pa pf G.E F fu G.p0 G.p1 G.p4 (by omega) hfu G.mo h1 (by omega)).mono ?_
      rintro e w' ⟨rfl, hb⟩
      exact ⟨_, _, _, _, _, _, rfl, hb⟩
  · refine (look_full F fu (by omega) hfu G.mo (by omega)).mono ?_
    rintro e w' ⟨rfl, hb⟩
    exact ⟨_, _, _, _, _, _, rfl, hb⟩
theorem look_yes (G : Gd ps pa pf pk pb w0 sb bp bw bh N m wt ht pc most) (F : FAt w0 w fb pc sb most n st m vi) (fu : Nat) (hn : n ≤ most) (hfu : fu ≤ 1) (hst : st ≤ 8) (h : lkP (kdAt m pc) (many pc) most (n + fu) st = true) :
    Calls Tryd.prog 67 #[.pointer (some ⟨fb, 0, none⟩), .int .i64 fu] w fun e w' => e = .returned (.tuple #[insV (wAt m pc (n + fu)), kwV (kdAt m pc (n + fu)), .bool true]) ∧ Below w.heap.size w w' := by
  have := G.mo
  have h' := lkP_iff.1 h
  refine (look_in pk pb G.T G.R F fu G.p0 G.p1 G.p4 (by omega) hfu G.mo hst h'.1 h'.2.1).mono ?_
  rintro e w' ⟨rfl, hb⟩
  exact ⟨by rw [h], hb⟩
set_option maxRecDepth 100000 in
set_option maxHeartbeats 4000000 in
theorem goOn_stop (G : Gd ps pa pf pk pb w0 sb bp bw bh N m wt ht pc most) (F : FAt w0 w fb pc sb most n st m vi) (hn : n ≤ most) (hst : st ≤ 8) (h : lkP (kdAt m pc) (many pc) most n st = false) :
    Calls Tryd.prog 46 #[.pointer (some ⟨fb, 0, none⟩)] w fun e w' => e = .returned (.bool false) ∧ FAt w0 w' fb pc sb most n st m vi := by
  have hl := look_no G F 0 hn (by omega) hst h
  have FH : Hid (FAt w0 w fb pc sb most n st m vi) := F
  clear F G h
  go_enter Tryd.func46, Tryd.ntmps46
  go_wp2_with fail
  refine hl.mono ?_
  rintro e w1 ⟨i0, i1, i2, i3, i4, s, rfl, hb⟩
  clear hl
  go_wp2
  go_ret
  have hA : Below w1.heap.size w1 (w1.alloc (.cells #[.int .i64 i0, .int .i64 i1, .int .i64 i2, .int .i64 i3, .int .u32 i4] 65)) := (Below.refl _ _).alloc (Nat.le_refl _) _
  exact ⟨rfl, (FH.out.stays hb).stays hA⟩
set_option maxRecDepth 100000 in
set_option maxHeartbeats 4000000 in
theorem goOn_one (G : Gd ps pa pf pk pb w0 sb bp bw bh N m wt ht pc most) (F : FAt w0 w fb pc sb most n st m vi) (hn : n ≤ most) (hst : st ≤ 8) (h : lkP (kdAt m pc) (many pc) most n st = true) (h2 : kdAt m pc n ≠ 2) :
    Calls Tryd.prog 46 #[.pointer (some ⟨fb, 0, none⟩)] w fun e w' => e = .returned (.bool true) ∧ ∃ vi', FAt w0 w' fb pc sb most (n + 1) (stP (kdAt m pc) n st) m vi' := by
  have hl := look_yes G F 0 hn (by omega) hst h
  have FH : Hid (FAt w0 w fb pc sb most n st m vi) := F
  have hk : kdAt m pc n = 1 ∨ kdAt m pc n = 4 ∨ kdAt m pc n = 5 := by
    have := (lkP_iff.1 h).2.2.1
    rcases knd_in (wAt m pc n) with e | e | e | e | e <;> (change kdAt m pc n = _ at e; omega)
  have ht : ∀ W, FAt w0 W fb pc sb most n st m vi → _ := fun W FW => take_any FW (by have := G.mo; omega) hst (kdAt m pc n) (by omega)
  have hS : (if kdAt m pc n = 5 then st + 1 else st) = stP (kdAt m pc) n st := rfl
  rw [hS] at ht
  have hX : insV (wAt m pc n) = K.ins (decK (wAt m pc n)) (Tab.xs (Tab.sh (decK (wAt m pc n))) (wAt m pc n)) (Tab.xt (Tab.sh (decK (wAt m pc n))) (wAt m pc n)) (Tab.xd (Tab.sh (decK (wAt m pc n))) (wAt m pc n)) (Tab.xm (Tab.sh (decK (wAt m pc n))) (wAt m pc n)) := rfl
  rw [Nat.add_zero] at hl
  rw [hX] at ht hl
  clear F G h hX hS
  generalize Tab.xs (Tab.sh (decK (wAt m pc n))) (wAt m pc n) = i1 at *
  generalize Tab.xt (Tab.sh (decK (wAt m pc n))) (wAt m pc n) = i2 at *
  generalize Tab.xd (Tab.sh (decK (wAt m pc n))) (wAt m pc n) = i3 at *
  generalize Tab.xm (Tab.sh (decK (wAt m pc n))) (wAt m pc n) = i4 at *
  generalize decK (wAt m pc n) = i0 at *
  generalize stP (kdAt m pc) n st = st' at *
  generalize kdAt m pc n = kd at *
  rcases hk with rfl | rfl | rfl
  all_goals
    (first
     | rw [show kwV 1 = .string ⟨#[115, 117, 109]⟩ from rfl] at ht hl
     | rw [show kwV 4 = .string ⟨#[108, 111, 97, 100]⟩ from rfl] at ht hl
     | rw [show kwV 5 = .string ⟨#[115, 116, 111, 114, 101]⟩ from rfl] at ht hl)
    go_enter Tryd.func46, Tryd.ntmps46
    go_wp2_with fail
    refine hl.mono ?_
    rintro e w1 ⟨rfl, hb⟩
    clear hl
    go_wp2_with fail
    refine (ht _ ((FH.out.stays hb).stays ((Below.refl _ _).alloc (Nat.le_refl _) _))).mono ?_
    rintro e w2 ⟨rfl, _, vi', F2⟩
    go_wp2
    go_ret
    exact ⟨rfl, vi', F2⟩
set_option maxRecDepth 100000 in
set_option maxHeartbeats 4000000 in
/-- a branch that has no slot -/
theorem goOn_no (G : Gd ps pa pf pk pb w0 sb bp bw bh N m wt ht pc most) (F : FAt w0 w fb pc sb most n st m vi) (hn : n ≤ most) (hst : st ≤ 8) (h : lkP (kdAt m pc) (many pc) most n st = true) (h2 : kdAt m pc n = 2) (h3 : lkP (kdAt m pc) (many pc) most (n + 1) st = false) :
    Calls Tryd.prog 46 #[.pointer (some ⟨fb, 0, none⟩)] w fun e w' => e = .returned (.bool false) ∧ FAt w0 w' fb pc sb most n st m vi := by
  have hl := look_yes G F 0 hn (by omega) hst h
  have FH : Hid (FAt w0 w fb pc sb most n st m vi) := F
  have hl1 : ∀ W, FAt w0 W fb pc sb most n st m vi → _ := fun W FW => look_no G FW 1 hn (by omega) hst h3
  have hX : insV (wAt m pc n) = K.ins (decK (wAt m pc n)) (Tab.xs (Tab.sh (decK (wAt m pc n))) (wAt m pc n)) (Tab.xt (Tab.sh (decK (wAt m pc n))) (wAt m pc n)) (Tab.xd (Tab.sh (decK (wAt m pc n))) (wAt m pc n)) (Tab.xm (Tab.sh (decK (wAt m pc n))) (wAt m pc n)) := rfl
  rw [Nat.add_zero, h2, show kwV 2 = .string ⟨#[98, 114, 97, 110, 99, 104]⟩ from rfl] at hl
  rw [hX] at hl
  clear F G h hX h3
  generalize Tab.xs (Tab.sh (decK (wAt m pc n))) (wAt m pc n) = i1 at *
  generalize Tab.xt (Tab.sh (decK (wAt m pc n))) (wAt m pc n) = i2 at *
  generalize Tab.xd (Tab.sh (decK (wAt m pc n))) (wAt m pc n) = i3 at *
  generalize Tab.xm (Tab.sh (decK (wAt m pc n))) (wAt m pc n) = i4 at *
  generalize decK (wAt m pc n) = i0 at *
  go_enter Tryd.func46, Tryd.ntmps46
  go_wp2_with fail
  refine hl.mono ?_
  rintro e w1 ⟨rfl, hb⟩
  clear hl
  have hA : Below w1.heap.size w1 (w1.alloc (.cells #[.int .i64 i0, .int .i64 i1, .int .i64 i2, .int .i64 i3, .int .u32 i4] 65)) := (Below.refl _ _).alloc (Nat.le_refl _) _
  have F1 : Hid _ := (FH.out.stays hb).stays hA
  clear FH hb hA
  go_wp2_with fail
  refine (hl1 _ F1.out).mono ?_
  rintro e w2 ⟨j0, j1, j2, j3, j4, s, rfl, hb⟩
  clear hl1
  go_wp2
  go_ret
  have hA2 : Below w2.heap.size w2 (w2.alloc (.cells #[.int .i64 j0, .int .i64 j1, .int .i64 j2, .int .i64 j3, .int .u32 j4] 65)) := (Below.refl _ _).alloc (Nat.le_refl _) _
  exact ⟨rfl, (F1.out.stays hb).stays hA2⟩
set_option maxRecDepth 100000 in
set_option maxHeartbeats 4000000 in
/-- a branch with a branch behind it -/
theorem goOn_br (G : Gd ps pa pf pk pb w0 sb bp bw bh N m wt ht pc most) (F : FAt w0 w fb pc sb most n st m vi) (hn : n ≤ most) (hst : st ≤ 8) (h : lkP (kdAt m pc) (many pc) most n st = true) (h2 : kdAt m pc n = 2) (h3 : lkP (kdAt m pc) (many pc) most (n + 1) st = true) (h4 : kdAt m pc (n + 1) = 2) :
    Calls Tryd.prog 46 #[.pointer (some ⟨fb, 0, none⟩)] w fun e w' => e = .returned (.bool false) ∧ FAt w0 w' fb pc sb most n st m vi := by
  have hl := look_yes G F 0 hn (by omega) hst h
  have FH : Hid (FAt w0 w fb pc sb most n st m vi) := F
  have hl1 : ∀ W, FAt w0 W fb pc sb most n st m vi → _ := fun W FW => look_yes G FW 1 hn (by omega) hst h3
  have hX : insV (wAt m pc n) = K.ins (decK (wAt m pc n)) (Tab.xs (Tab.sh (decK (wAt m pc n))) (wAt m pc n)) (Tab.xt (Tab.sh (decK (wAt m pc n))) (wAt m pc n)) (Tab.xd (Tab.sh (decK (wAt m pc n))) (wAt m pc n)) (Tab.xm (Tab.sh (decK (wAt m pc n))) (wAt m pc n)) := rfl
  rw [Nat.add_zero, h2, show kwV 2 = .string ⟨#[98, 114, 97, 110, 99, 104]⟩ from rfl] at hl
  rw [hX] at hl
  rw [h4, show kwV 2 = .string ⟨#[98, 114, 97, 110, 99, 104]⟩ from rfl, show insV (wAt m pc (n + 1)) = K.ins (decK (wAt m pc (n + 1))) (Tab.xs (Tab.sh (decK (wAt m pc (n + 1)))) (wAt m pc (n + 1))) (Tab.xt (Tab.sh (decK (wAt m pc (n + 1)))) (wAt m pc (n + 1))) (Tab.xd (Tab.sh (decK (wAt m pc (n + 1)))) (wAt m pc (n + 1))) (Tab.xm (Tab.sh (decK (wAt m pc (n + 1)))) (wAt m pc (n + 1))) from rfl] at hl1
  clear F G h hX h3
  generalize Tab.xs (Tab.sh (decK (wAt m pc n))) (wAt m pc n) = i1 at *
  generalize Tab.xt (Tab.sh (decK (wAt m pc n))) (wAt m pc n) = i2 at *
  generalize Tab.xd (Tab.sh (decK (wAt m pc n))) (wAt m pc n) = i3 at *
  generalize Tab.xm (Tab.sh (decK (wAt m pc n))) (wAt m pc n) = i4 at *
  generalize decK (wAt m pc n) = i0 at *
  generalize Tab.xs (Tab.sh (decK (wAt m pc (n + 1)))) (wAt m pc (n + 1)) = j1 at *
  generalize Tab.xt (Tab.sh (decK (wAt m pc (n + 1)))) (wAt m pc (n + 1)) = j2 at *
  generalize Tab.xd (Tab.sh (decK (wAt m pc (n + 1)))) (wAt m pc (n + 1)) = j3 at *
  generalize Tab.xm (Tab.sh (decK (wAt m pc (n + 1)))) (wAt m pc (n + 1)) = j4 at *
  generalize decK (wAt m pc (n + 1)) = j0 at *
  go_enter Tryd.func46, Tryd.ntmps46
  go_wp2_with fail
  refine hl.mono ?_
  rintro e w1 ⟨rfl, hb⟩
  clear hl
  have hA : Below w1.heap.size w1 (w1.alloc (.cells #[.int .i64 i0, .int .i64 i1, .int .i64 i2, .int .i64 i3, .int .u32 i4] 65)) := (Below.refl _ _).alloc (Nat.le_refl _) _
  have F1 : Hid _ := (FH.out.stays hb).stays hA
  clear FH hb hA
  go_wp2_with fail
  refine (hl1 _ F1.out).mono ?_
  rintro e w2 ⟨rfl, hb⟩
  clear hl1
  go_wp2
  go_ret
  have hA2 : Below w2.heap.size w2 (w2.alloc (.cells #[.int .i64 j0, .int .i64 j1, .int .i64 j2, .int .i64 j3, .int .u32 j4] 65)) := (Below.refl _ _).alloc (Nat.le_refl _) _
  exact ⟨rfl, (F1.out.stays hb).stays hA2⟩
set_option maxRecDepth 100000 in
set_option maxHeartbeats 4000000 in
/-- a branch and its slot -/
theorem goOn_two (G : Gd ps pa pf pk pb w0 sb bp bw bh N m wt ht pc most) (F : FAt w0 w fb pc sb most n st m vi) (hn : n ≤ most) (hst : st ≤ 8) (h : lkP (kdAt m pc) (many pc) most n st = true) (h2 : kdAt m pc n = 2) (h3 : lkP (kdAt m pc) (many pc) most (n + 1) st = true) (h4 : kdAt m pc (n + 1) ≠ 2) :
    Calls Tryd.prog 46 #[.pointer (some ⟨fb, 0, none⟩)] w fun e w' => e = .returned (.bool false) ∧ ∃ st' vi', FAt w0 w' fb pc sb most (n + 2) st' m vi' := by
  have hl := look_yes G F 0 hn (by omega) hst h
  have FH : Hid (FAt w0 w fb pc sb most n st m vi) := F
  have hl1 : ∀ W, FAt w0 W fb pc sb most n st m vi → _ := fun W FW => look_yes G FW 1 hn (by omega) hst h3
  have hk : kdAt m pc (n + 1) = 1 ∨ kdAt m pc (n + 1) = 4 ∨ kdAt m pc (n + 1) = 5 := by
    have := (lkP_iff.1 h3).2.2.1
    rcases knd_in (wAt m pc (n + 1)) with e | e | e | e | e <;> (change kdAt m pc (n + 1) = _ at e; omega)
  have hm24 := G.mo
  have hroom := (lkP_iff.1 h3).1
  have ht : ∀ W, FAt w0 W fb pc sb most n st m vi → _ := fun W FW => take_any FW (by omega) hst 2 (by omega)
  have ht1 : ∀ W v', FAt w0 W fb pc sb most (n + 1) st m v' → _ := fun W v' FW => take_any FW (by omega) hst (kdAt m pc (n + 1)) (by omega)
  have hX : insV (wAt m pc n) = K.ins (decK (wAt m pc n)) (Tab.xs (Tab.sh (decK (wAt m pc n))) (wAt m pc n)) (Tab.xt (Tab.sh (decK (wAt m pc n))) (wAt m pc n)) (Tab.xd (Tab.sh (decK (wAt m pc n))) (wAt m pc n)) (Tab.xm (Tab.sh (decK (wAt m pc n))) (wAt m pc n)) := rfl
  rw [Nat.add_zero, h2, show kwV 2 = .string ⟨#[98, 114, 97, 110, 99, 104]⟩ from rfl] at hl
  rw [show kwV 2 = .string ⟨#[98, 114, 97, 110, 99, 104]⟩ from rfl, show (if 2 = 5 then st + 1 else st) = st from rfl] at ht
  have hX1 : insV (wAt m pc (n + 1)) = K.ins (decK (wAt m pc (n + 1))) (Tab.xs (Tab.sh (decK (wAt m pc (n + 1)))) (wAt m pc (n + 1))) (Tab.xt (Tab.sh (decK (wAt m pc (n + 1)))) (wAt m pc (n + 1))) (Tab.xd (Tab.sh (decK (wAt m pc (n + 1)))) (wAt m pc (n + 1))) (Tab.xm (Tab.sh (decK (wAt m pc (n + 1)))) (wAt m pc (n + 1))) := rfl
  rw [hX] at hl ht
  rw [hX1] at hl1 ht1
  clear F G h hX h3 hX1 h4
  generalize Tab.xs (Tab.sh (decK (wAt m pc n))) (wAt m pc n) = i1 at *
  generalize Tab.xt (Tab.sh (decK (wAt m pc n))) (wAt m pc n) = i2 at *
  generalize Tab.xd (Tab.sh (decK (wAt m pc n))) (wAt m pc n) = i3 at *
  generalize Tab.xm (Tab.sh (decK (wAt m pc n))) (wAt m pc n) = i4 at *
  generalize decK (wAt m pc n) = i0 at *
  generalize Tab.xs (Tab.sh (decK (wAt m pc (n + 1)))) (wAt m pc (n + 1)) = j1 at *
  generalize Tab.xt (Tab.sh (decK (wAt m pc (n + 1)))) (wAt m pc (n + 1)) = j2 at *
  generalize Tab.xd (Tab.sh (decK (wAt m pc (n + 1)))) (wAt m pc (n + 1)) = j3 at *
  generalize Tab.xm (Tab.sh (decK (wAt m pc (n + 1)))) (wAt m pc (n + 1)) = j4 at *
  generalize decK (wAt m pc (n + 1)) = j0 at *
  generalize kdAt m pc (n + 1) = kd at *
  rcases hk with rfl | rfl | rfl
  all_goals
    (first
     | rw [show kwV 1 = .string ⟨#[115, 117, 109]⟩ from rfl] at ht1 hl1
     | rw [show kwV 4 = .string ⟨#[108, 111, 97, 100]⟩ from rfl] at ht1 hl1
     | rw [show kwV 5 = .string ⟨#[115, 116, 111, 114, 101]⟩ from rfl] at ht1 hl1)
    go_enter Tryd.func46, Tryd.ntmps46
    go_wp2_with fail
    refine hl.mono ?_
    rintro e w1 ⟨rfl, hb⟩
    clear hl
    have hA : Below w1.heap.size w1 (w1.alloc (.cells #[.int .i64 i0, .int .i64 i1, .int .i64 i2, .int .i64 i3, .int .u32 i4] 65)) := (Below.refl _ _).alloc (Nat.le_refl _) _
    have F1 : Hid _ := (FH.out.stays hb).stays hA
    have a0 : (w1.alloc (.cells #[.int .i64 i0, .int .i64 i1, .int .i64 i2, .int .i64 i3, .int .u32 i4] 65)).cell? ⟨w1.heap.size, 0, none⟩ = some (.int .i64 i0) := by simp
    have a1 : (w1.alloc (.cells #[.int .i64 i0, .int .i64 i1, .int .i64 i2, .int .i64 i3, .int .u32 i4] 65)).cell? ⟨w1.heap.size, 1, none⟩ = some (.int .i64 i1) := by simp
    have a2 : (w1.alloc (.cells #[.int .i64 i0, .int .i64 i1, .int .i64 i2, .int .i64 i3, .int .u32 i4] 65)).cell? ⟨w1.heap.size, 2, none⟩ = some (.int .i64 i2) := by simp
    have a3 : (w1.alloc (.cells #[.int .i64 i0, .int .i64 i1, .int .i64 i2, .int .i64 i3, .int .u32 i4] 65)).cell? ⟨w1.heap.size, 3, none⟩ = some (.int .i64 i3) := by simp
    have a4 : (w1.alloc (.cells #[.int .i64 i0, .int .i64 i1, .int .i64 i2, .int .i64 i3, .int .u32 i4] 65)).cell? ⟨w1.heap.size, 4, none⟩ = some (.int .u32 i4) := by simp
    clear FH hb hA
    go_wp2_with fail
    generalize w1.alloc (.cells #[.int .i64 i0, .int .i64 i1, .int .i64 i2, .int .i64 i3, .int .u32 i4] 65) = w1a at *
    generalize w1.heap.size = g1 at *
    refine (hl1 _ F1.out).mono ?_
    rintro e w2 ⟨rfl, hb⟩
    clear hl1
    have hA2 : Below w2.heap.size w2 (w2.alloc (.cells #[.int .i64 j0, .int .i64 j1, .int .i64 j2, .int .i64 j3, .int .u32 j4] 65)) := (Below.refl _ _).alloc (Nat.le_refl _) _
    have F2 : Hid _ := (F1.out.stays hb).stays hA2
    have hB2 := hb.trans (hA2.mono hb.size)
    have q0 := K.cell_stays hB2 (Nat.le_refl _) a0
    have q1 := K.cell_stays hB2 (Nat.le_refl _) a1
    have q2 := K.cell_stays hB2 (Nat.le_refl _) a2
    have q3 := K.cell_stays hB2 (Nat.le_refl _) a3
    have q4 := K.cell_stays hB2 (Nat.le_refl _) a4
    have b0 : (w2.alloc (.cells #[.int .i64 j0, .int .i64 j1, .int .i64 j2, .int .i64 j3, .int .u32 j4] 65)).cell? ⟨w2.heap.size, 0, none⟩ = some (.int .i64 j0) := by simp
    have b1 : (w2.alloc (.cells #[.int .i64 j0, .int .i64 j1, .int .i64 j2, .int .i64 j3, .int .u32 j4] 65)).cell? ⟨w2.heap.size, 1, none⟩ = some (.int .i64 j1) := by simp
    have b2 : (w2.alloc (.cells #[.int .i64 j0, .int .i64 j1, .int .i64 j2, .int .i64 j3, .int .u32 j4] 65)).cell? ⟨w2.heap.size, 2, none⟩ = some (.int .i64 j2) := by simp
    have b3 : (w2.alloc (.cells #[.int .i64 j0, .int .i64 j1, .int .i64 j2, .int .i64 j3, .int .u32 j4] 65)).cell? ⟨w2.heap.size, 3, none⟩ = some (.int .i64 j3) := by simp
    have b4 : (w2.alloc (.cells #[.int .i64 j0, .int .i64 j1, .int .i64 j2, .int .i64 j3, .int .u32 j4] 65)).cell? ⟨w2.heap.size, 4, none⟩ = some (.int .u32 j4) := by simp
    have hg2 : w2.heap.size < (w2.alloc (.cells #[.int .i64 j0, .int .i64 j1, .int .i64 j2, .int .i64 j3, .int .u32 j4] 65)).heap.size := by simp
    have hfb2 : fb < w2.heap.size := (F1.out.stays hb).lt
    have hvb2 : ∀ k, vi.ownBlock = some k → k < w2.heap.size := fun k e => (owns_lt (F1.out.stays hb).row k e).2
    clear hb hA2 hB2 a0 a1 a2 a3 a4 F1
    go_wp2_with fail
    generalize w2.alloc (.cells #[.int .i64 j0, .int .i64 j1, .int .i64 j2, .int .i64 j3, .int .u32 j4] 65) = w2a at *
    generalize w2.heap.size = g2 at *
    refine (ht _ F2.out).mono ?_
    rintro e w3 ⟨rfl, tk, v3, F3⟩
    have hk3 : w3.heap[g2]? = w2a.heap[g2]? := tk g2 hg2 (by omega) (fun e => by have := hvb2 g2 e; omega)
    have gc : ∀ (j : Nat) (v : Value), w2a.cell? ⟨g2, j, none⟩ = some v → w3.cell? ⟨g2, j, none⟩ = some v := fun j v e => (World.cell?_of_block (a := ⟨g2, j, none⟩) hk3).trans e
    have d0 := gc _ _ b0
    have d1 := gc _ _ b1
    have d2 := gc _ _ b2
    have d3 := gc _ _ b3
    have d4 := gc _ _ b4
    clear ht tk hk3 gc b0 b1 b2 b3 b4 q0 q1 q2 q3 q4 F2
    have F3H : Hid _ := F3
    clear F3
    go_wp2_with fail
    refine (ht1 _ _ F3H.out).mono ?_
    rintro e w4 ⟨rfl, _, v4, F4⟩
    clear ht1
    go_wp2
    go_ret
    exact ⟨rfl, _, v4, F4⟩
end
end Go.Proofs.YtckcbnfobjmhpaaDoor
