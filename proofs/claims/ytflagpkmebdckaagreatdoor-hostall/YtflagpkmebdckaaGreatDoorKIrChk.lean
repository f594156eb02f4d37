/-
  Package ir: which code is well: Check and what it calls.
-/
import Derived.Laws.Strings
import Derived.Test.YtflagpkmebdckaaGreatDoorKNum
import Derived.Test.YtflagpkmebdckaaGreatDoorJRamA
namespace Go.Proofs.YtflagpkmebdckaaGreatDoor
open Go.RowKit Go.Maps
open Num
set_option linter.unusedVariables false
/-- an op's cells -/
def opC (o : Opx) : List Value := [.string o.s, .int .i64 o.d, .int .i64 o.a, .int .i64 o.b, .int .u32 o.i, .int .i64 o.t]
def opV (o : Opx) : Value := .agg #[.string o.s, .int .i64 o.d, .int .i64 o.a, .int .i64 o.b, .int .u32 o.i, .int .i64 o.t]
/-- a slice of ops -/
structure OpsIn (w : World) (v : Value) (l : List Opx) : Prop where
  sh : ∃ ao cap, v = .slice ao l.length cap ∧ l.length ≤ cap ∧ (0 < l.length → ∃ b off : Nat, ao = some ⟨b, off, none⟩ ∧ ∀ (i : Nat) (o : Opx), l[i]? = some o → ∀ (j : Nat) (u : Value), (opC o)[j]? = some u → w.cell? ⟨b, off + i * 6 + j, none⟩ = some u)
  ok : ∀ o ∈ l, o.ok
theorem OpsIn.stays {w w' : World} {v : Value} {l : List Opx} (A : OpsIn w v l) (h : Below w.heap.size w w') : OpsIn w' v l := by
  obtain ⟨ao, cap, rfl, hc, hh⟩ := A.sh
  refine ⟨⟨ao, cap, rfl, hc, fun hp => ?_⟩, A.ok⟩
  obtain ⟨b, off, rfl, hcell⟩ := hh hp
  exact ⟨b, off, rfl, fun i o hi j u hj => by have := hcell i o hi j u hj; rw [h.cell (World.block_lt_of_cell? _ _ this)]; exact this⟩
theorem kn_eq (s : ByteArray) (k : Nat) (h1 : 1 ≤ k) (h2 : k < 28) : (s.toList == kinds.getD k []) = decide (kn s = k) := by
  rw [ByteArray.toList_eq]
  by_cases h : s.data.toList = kinds.getD k []
  · have e : s = kindS k := by obtain ⟨⟨l⟩⟩ := s; unfold kindS; rw [← h]
    rw [e, kn_kind k h1 h2]; simp [kindS]
  · rw [beq_eq_false_iff_ne.2 h]
    have : ¬ kn s = k := by
      intro e
      have := kn_word (s := s) (by omega)
      rw [e] at this
      exact h (by rw [this]; simp [kindS])
    simp [this]
theorem kn_ne {s : ByteArray} (h : kn s = 0) (k : Nat) (h1 : 1 ≤ k) (h2 : k < 28) : (s.toList == kinds.getD k []) = false := by
  rw [ByteArray.toList_eq]; exact beq_eq_false_iff_ne.2 (kn_none h k h1 h2)
/-- an error by its number -/
def erV (pe : Nat → Addr) (n : Int) : Value := if n = 0 then .nilIface else .iface 332 (.pointer (some (pe n.toNat)))
/-- the errors lie where the program's text lays them -/
structure Eg (pe : Nat → Addr) (w : World) : Prop where
  e2 : w.cell? ⟨0, 0, none⟩ = some (.iface 332 (.pointer (some (pe 2))))
  e3 : w.cell? ⟨1, 0, none⟩ = some (.iface 332 (.pointer (some (pe 3))))
  e4 : w.cell? ⟨5, 0, none⟩ = some (.iface 332 (.pointer (some (pe 4))))
  e8 : w.cell? ⟨9, 0, none⟩ = some (.iface 332 (.pointer (some (pe 8))))
  e9 : w.cell? ⟨2, 0, none⟩ = some (.iface 332 (.pointer (some (pe 9))))
  e10 : w.cell? ⟨3, 0, none⟩ = some (.iface 332 (.pointer (some (pe 10))))
theorem Eg.stays {pe : Nat → Addr} {w w' : World} (E : Eg pe w) (h : Below w.heap.size w w') : Eg pe w' := by
  have c : ∀ (a : Addr) (v : Value), w.cell? a = some v → w'.cell? a = some v := fun a v e => by rw [h.cell (World.block_lt_of_cell? _ _ e)]; exact e
  exact ⟨c _ _ E.e2, c _ _ E.e3, c _ _ E.e4, c _ _ E.e8, c _ _ E.e9, c _ _ E.e10⟩
theorem Eg.er {pe : Nat → Addr} {w : World} (E : Eg pe w) : Er (pe 3) (pe 9) (pe 10) w := ⟨E.e3, E.e9, E.e10⟩
theorem Eg.size {pe : Nat → Addr} {w : World} (E : Eg pe w) : 0 < w.heap.size ∧ 1 < w.heap.size ∧ 5 < w.heap.size ∧ 9 < w.heap.size ∧ 2 < w.heap.size ∧ 3 < w.heap.size :=
  ⟨World.block_lt_of_cell? _ _ E.e2, World.block_lt_of_cell? _ _ E.e3, World.block_lt_of_cell? _ _ E.e4, World.block_lt_of_cell? _ _ E.e8, World.block_lt_of_cell? _ _ E.e9, World.block_lt_of_cell? _ _ E.e10⟩
set_option maxHeartbeats 1000000 in
theorem isOut_any (o : Opx) (w : World) : Calls Tryz.prog 130 #[opV o] w fun e w' => e = .returned (.bool (outB o)) ∧ Below w.heap.size w w' := by
  have h1 := kn_eq o.s 26 (by omega) (by omega)
  have h2 := kn_eq o.s 27 (by omega) (by omega)
  have e1 : Hid (outB o = ((o.s.toList == [111, 117, 116]) || (o.s.toList == [111, 117, 116, 114]))) := by
    show _ = _
    unfold outB
    rw [show (o.s.toList == [111, 117, 116]) = decide (kn o.s = 26) from h1, show (o.s.toList == [111, 117, 116, 114]) = decide (kn o.s = 27) from h2]
    simp
  clear h1 h2
  unfold opV
  go_enter Tryz.func130, Tryz.ntmps130
  go_wp2
  all_goals
    go_ret
    refine ⟨?_, (Below.refl _ _).alloc (Nat.le_refl _) _⟩
    rw [e1.out]
    simp_all
def shpV (k : Nat) : Value := .tuple #[.agg #[.int .i64 (rD k), .int .i64 (rA k), .int .i64 (rB k), .bool (rI k)], .bool (decide (k ≠ 0))]
set_option maxHeartbeats 1000000 in
theorem shapeOf_1 (w : World) : Calls Tryz.prog 196 #[.string ⟨#[115, 101, 116]⟩] w fun e w' => e = .returned (.tuple #[.agg #[.int .i64 2, .int .i64 0, .int .i64 0, .bool true], .bool true]) ∧ Below w.heap.size w w' := by
  go_enter Tryz.func196, Tryz.ntmps196
  go_wp2
  exact bodyPost_ret (v := .tuple #[.agg #[.int .i64 2, .int .i64 0, .int .i64 0, .bool true], .bool true]) (by simp [results, Tryz.results196, go_sem]) rfl ⟨rfl, (Below.refl _ _).alloc (Nat.le_refl _) _⟩
set_option maxHeartbeats 1000000 in
theorem shapeOf_2 (w : World) : Calls Tryz.prog 196 #[.string ⟨#[99, 111, 112, 121]⟩] w fun e w' => e = .returned (.tuple #[.agg #[.int .i64 2, .int .i64 1, .int .i64 0, .bool false], .bool true]) ∧ Below w.heap.size w w' := by
  go_enter Tryz.func196, Tryz.ntmps196
  go_wp2
  exact bodyPost_ret (v := .tuple #[.agg #[.int .i64 2, .int .i64 1, .int .i64 0, .bool false], .bool true]) (by simp [results, Tryz.results196, go_sem]) rfl ⟨rfl, (Below.refl _ _).alloc (Nat.le_refl _) _⟩
set_option maxHeartbeats 1000000 in
theorem shapeOf_3 (w : World) : Calls Tryz.prog 196 #[.string ⟨#[97, 100, 100]⟩] w fun e w' => e = .returned (.tuple #[.agg #[.int .i64 2, .int .i64 1, .int .i64 1, .bool false], .bool true]) ∧ Below w.heap.size w w' := by
  go_enter Tryz.func196, Tryz.ntmps196
  go_wp2
  exact bodyPost_ret (v := .tuple #[.agg #[.int .i64 2, .int .i64 1, .int .i64 1, .bool false], .bool true]) (by simp [results, Tryz.results196, go_sem]) rfl ⟨rfl, (Below.refl _ _).alloc (Nat.le_refl _) _⟩
set_option maxHeartbeats 1000000 in
theorem shapeOf_4 (w : World) : Calls Tryz.prog 196 #[.string ⟨#[115, 117, 98]⟩] w fun e w' => e = .returned (.tuple #[.agg #[.int .i64 2, .int .i64 1, .int .i64 1, .bool false], .bool true]) ∧ Below w.heap.size w w' := by
  go_enter Tryz.func196, Tryz.ntmps196
  go_wp2
  exact bodyPost_ret (v := .tuple #[.agg #[.int .i64 2, .int .i64 1, .int .i64 1, .bool false], .bool true]) (by simp [results, Tryz.results196, go_sem]) rfl ⟨rfl, (Below.refl _ _).alloc (Nat.le_refl _) _⟩
set_option maxHeartbeats 1000000 in
theorem shapeOf_5 (w : World) : Calls Tryz.prog 196 #[.string ⟨#[97, 110, 100]⟩] w fun e w' => e = .returned (.tuple #[.agg #[.int .i64 2, .int .i64 1, .int .i64 1, .bool false], .bool true]) ∧ Below w.heap.size w w' := by
  go_enter Tryz.func196, Tryz.ntmps196
  go_wp2
  exact bodyPost_ret (v := .tuple #[.agg #[.int .i64 2, .int .i64 1, .int .i64 1, .bool false], .bool true]) (by simp [results, Tryz.results196, go_sem]) rfl ⟨rfl, (Below.refl _ _).alloc (Nat.le_refl _) _⟩
set_option maxHeartbeats 1000000 in
theorem shapeOf_6 (w : World) : Calls Tryz.prog 196 #[.string ⟨#[111, 114]⟩] w fun e w' => e = .returned (.tuple #[.agg #[.int .i64 2, .int .i64 1, .int .i64 1, .bool false], .bool true]) ∧ Below w.heap.size w w' := by
  go_enter Tryz.func196, Tryz.ntmps196
  go_wp2
  exact bodyPost_ret (v := .tuple #[.agg #[.int .i64 2, .int .i64 1, .int .i64 1, .bool false], .bool true]) (by simp [results, Tryz.results196, go_sem]) rfl ⟨rfl, (Below.refl _ _).alloc (Nat.le_refl _) _⟩
set_option maxHeartbeats 1000000 in
theorem shapeOf_7 (w : World) : Calls Tryz.prog 196 #[.string ⟨#[120, 111, 114]⟩] w fun e w' => e = .returned (.tuple #[.agg #[.int .i64 2, .int .i64 1, .int .i64 1, .bool false], .bool true]) ∧ Below w.heap.size w w' := by
  go_enter Tryz.func196, Tryz.ntmps196
  go_wp2
  exact bodyPost_ret (v := .tuple #[.agg #[.int .i64 2, .int .i64 1, .int .i64 1, .bool false], .bool true]) (by simp [results, Tryz.results196, go_sem]) rfl ⟨rfl, (Below.refl _ _).alloc (Nat.le_refl _) _⟩
set_option maxHeartbeats 1000000 in
theorem shapeOf_8 (w : World) : Calls Tryz.prog 196 #[.string ⟨#[110, 111, 114]⟩] w fun e w' => e = .returned (.tuple #[.agg #[.int .i64 2, .int .i64 1, .int .i64 1, .bool false], .bool true]) ∧ Below w.heap.size w w' := by
  go_enter Tryz.func196, Tryz.ntmps196
  go_wp2
  exact bodyPost_ret (v := .tuple #[.agg #[.int .i64 2, .int .i64 1, .int .i64 1, .bool false], .bool true]) (by simp [results, Tryz.results196, go_sem]) rfl ⟨rfl, (Below.refl _ _).alloc (Nat.le_refl _) _⟩
set_option maxHeartbeats 1000000 in
theorem shapeOf_9 (w : World) : Calls Tryz.prog 196 #[.string ⟨#[115, 108, 116]⟩] w fun e w' => e = .returned (.tuple #[.agg #[.int .i64 2, .int .i64 1, .int .i64 1, .bool false], .bool true]) ∧ Below w.heap.size w w' := by
  go_enter Tryz.func196, Tryz.ntmps196
  go_wp2
  exact bodyPost_ret (v := .tuple #[.agg #[.int .i64 2, .int .i64 1, .int .i64 1, .bool false], .bool true]) (by simp [results, Tryz.results196, go_sem]) rfl ⟨rfl, (Below.refl _ _).alloc (Nat.le_refl _) _⟩
set_option maxHeartbeats 1000000 in
theorem shapeOf_10 (w : World) : Calls Tryz.prog 196 #[.string ⟨#[115, 108, 116, 117]⟩] w fun e w' => e = .returned (.tuple #[.agg #[.int .i64 2, .int .i64 1, .int .i64 1, .bool false], .bool true]) ∧ Below w.heap.size w w' := by
  go_enter Tryz.func196, Tryz.ntmps196
  go_wp2
  exact bodyPost_ret (v := .tuple #[.agg #[.int .i64 2, .int .i64 1, .int .i64 1, .bool false], .bool true]) (by simp [results, Tryz.results196, go_sem]) rfl ⟨rfl, (Below.refl _ _).alloc (Nat.le_refl _) _⟩
set_option maxHeartbeats 1000000 in
theorem shapeOf_11 (w : World) : Calls Tryz.prog 196 #[.string ⟨#[115, 104, 108]⟩] w fun e w' => e = .returned (.tuple #[.agg #[.int .i64 2, .int .i64 1, .int .i64 1, .bool false], .bool true]) ∧ Below w.heap.size w w' := by
  go_enter Tryz.func196, Tryz.ntmps196
  go_wp2
  exact bodyPost_ret (v := .tuple #[.agg #[.int .i64 2, .int .i64 1, .int .i64 1, .bool false], .bool true]) (by simp [results, Tryz.results196, go_sem]) rfl ⟨rfl, (Below.refl _ _).alloc (Nat.le_refl _) _⟩
set_option maxHeartbeats 1000000 in
theorem shapeOf_12 (w : World) : Calls Tryz.prog 196 #[.string ⟨#[115, 104, 114]⟩] w fun e w' => e = .returned (.tuple #[.agg #[.int .i64 2, .int .i64 1, .int .i64 1, .bool false], .bool true]) ∧ Below w.heap.size w w' := by
  go_enter Tryz.func196, Tryz.ntmps196
  go_wp2
  exact bodyPost_ret (v := .tuple #[.agg #[.int .i64 2, .int .i64 1, .int .i64 1, .bool false], .bool true]) (by simp [results, Tryz.results196, go_sem]) rfl ⟨rfl, (Below.refl _ _).alloc (Nat.le_refl _) _⟩
set_option maxHeartbeats 1000000 in
theorem shapeOf_13 (w : World) : Calls Tryz.prog 196 #[.string ⟨#[115, 97, 114]⟩] w fun e w' => e = .returned (.tuple #[.agg #[.int .i64 2, .int .i64 1, .int .i64 1, .bool false], .bool true]) ∧ Below w.heap.size w w' := by
  go_enter Tryz.func196, Tryz.ntmps196
  go_wp2
  exact bodyPost_ret (v := .tuple #[.agg #[.int .i64 2, .int .i64 1, .int .i64 1, .bool false], .bool true]) (by simp [results, Tryz.results196, go_sem]) rfl ⟨rfl, (Below.refl _ _).alloc (Nat.le_refl _) _⟩
set_option maxHeartbeats 1000000 in
theorem shapeOf_14 (w : World) : Calls Tryz.prog 196 #[.string ⟨#[109, 117, 108]⟩] w fun e w' => e = .returned (.tuple #[.agg #[.int .i64 2, .int .i64 1, .int .i64 1, .bool false], .bool true]) ∧ Below w.heap.size w w' := by
  go_enter Tryz.func196, Tryz.ntmps196
  go_wp2
  exact bodyPost_ret (v := .tuple #[.agg #[.int .i64 2, .int .i64 1, .int .i64 1, .bool false], .bool true]) (by simp [results, Tryz.results196, go_sem]) rfl ⟨rfl, (Below.refl _ _).alloc (Nat.le_refl _) _⟩
set_option maxHeartbeats 1000000 in
theorem shapeOf_15 (w : World) : Calls Tryz.prog 196 #[.string ⟨#[109, 117, 108, 104]⟩] w fun e w' => e = .returned (.tuple #[.agg #[.int .i64 2, .int .i64 1, .int .i64 1, .bool false], .bool true]) ∧ Below w.heap.size w w' := by
  go_enter Tryz.func196, Tryz.ntmps196
  go_wp2
  exact bodyPost_ret (v := .tuple #[.agg #[.int .i64 2, .int .i64 1, .int .i64 1, .bool false], .bool true]) (by simp [results, Tryz.results196, go_sem]) rfl ⟨rfl, (Below.refl _ _).alloc (Nat.le_refl _) _⟩
set_option maxHeartbeats 1000000 in
theorem shapeOf_16 (w : World) : Calls Tryz.prog 196 #[.string ⟨#[109, 117, 108, 104, 117]⟩] w fun e w' => e = .returned (.tuple #[.agg #[.int .i64 2, .int .i64 1, .int .i64 1, .bool false], .bool true]) ∧ Below w.heap.size w w' := by
  go_enter Tryz.func196, Tryz.ntmps196
  go_wp2
  exact bodyPost_ret (v := .tuple #[.agg #[.int .i64 2, .int .i64 1, .int .i64 1, .bool false], .bool true]) (by simp [results, Tryz.results196, go_sem]) rfl ⟨rfl, (Below.refl _ _).alloc (Nat.le_refl _) _⟩
set_option maxHeartbeats 1000000 in
theorem shapeOf_17 (w : World) : Calls Tryz.prog 196 #[.string ⟨#[113, 117, 111]⟩] w fun e w' => e = .returned (.tuple #[.agg #[.int .i64 2, .int .i64 1, .int .i64 1, .bool false], .bool true]) ∧ Below w.heap.size w w' := by
  go_enter Tryz.func196, Tryz.ntmps196
  go_wp2
  exact bodyPost_ret (v := .tuple #[.agg #[.int .i64 2, .int .i64 1, .int .i64 1, .bool false], .bool true]) (by simp [results, Tryz.results196, go_sem]) rfl ⟨rfl, (Below.refl _ _).alloc (Nat.le_refl _) _⟩
set_option maxHeartbeats 1000000 in
theorem shapeOf_18 (w : World) : Calls Tryz.prog 196 #[.string ⟨#[114, 101, 109]⟩] w fun e w' => e = .returned (.tuple #[.agg #[.int .i64 2, .int .i64 1, .int .i64 1, .bool false], .bool true]) ∧ Below w.heap.size w w' := by
  go_enter Tryz.func196, Tryz.ntmps196
  go_wp2
  exact bodyPost_ret (v := .tuple #[.agg #[.int .i64 2, .int .i64 1, .int .i64 1, .bool false], .bool true]) (by simp [results, Tryz.results196, go_sem]) rfl ⟨rfl, (Below.refl _ _).alloc (Nat.le_refl _) _⟩
set_option maxHeartbeats 1000000 in
theorem shapeOf_19 (w : World) : Calls Tryz.prog 196 #[.string ⟨#[113, 117, 111, 117]⟩] w fun e w' => e = .returned (.tuple #[.agg #[.int .i64 2, .int .i64 1, .int .i64 1, .bool false], .bool true]) ∧ Below w.heap.size w w' := by
  go_enter Tryz.func196, Tryz.ntmps196
  go_wp2
  exact bodyPost_ret (v := .tuple #[.agg #[.int .i64 2, .int .i64 1, .int .i64 1, .bool false], .bool true]) (by simp [results, Tryz.results196, go_sem]) rfl ⟨rfl, (Below.refl _ _).alloc (Nat.le_refl _) _⟩
set_option maxHeartbeats 1000000 in
theorem shapeOf_20 (w : World) : Calls Tryz.prog 196 #[.string ⟨#[114, 101, 109, 117]⟩] w fun e w' => e = .returned (.tuple #[.agg #[.int .i64 2, .int .i64 1, .int .i64 1, .bool false], .bool true]) ∧ Below w.heap.size w w' := by
  go_enter Tryz.func196, Tryz.ntmps196
  go_wp2
  exact bodyPost_ret (v := .tuple #[.agg #[.int .i64 2, .int .i64 1, .int .i64 1, .bool false], .bool true]) (by simp [results, Tryz.results196, go_sem]) rfl ⟨rfl, (Below.refl _ _).alloc (Nat.le_refl _) _⟩
set_option maxHeartbeats 1000000 in
theorem shapeOf_21 (w : World) : Calls Tryz.prog 196 #[.string ⟨#[111, 118, 101, 114, 43]⟩] w fun e w' => e = .returned (.tuple #[.agg #[.int .i64 0, .int .i64 1, .int .i64 1, .bool false], .bool true]) ∧ Below w.heap.size w w' := by
  go_enter Tryz.func196, Tryz.ntmps196
  go_wp2
  exact bodyPost_ret (v := .tuple #[.agg #[.int .i64 0, .int .i64 1, .int .i64 1, .bool false], .bool true]) (by simp [results, Tryz.results196, go_sem]) rfl ⟨rfl, (Below.refl _ _).alloc (Nat.le_refl _) _⟩
set_option maxHeartbeats 1000000 in
theorem shapeOf_22 (w : World) : Calls Tryz.prog 196 #[.string ⟨#[111, 118, 101, 114, 45]⟩] w fun e w' => e = .returned (.tuple #[.agg #[.int .i64 0, .int .i64 1, .int .i64 1, .bool false], .bool true]) ∧ Below w.heap.size w w' := by
  go_enter Tryz.func196, Tryz.ntmps196
  go_wp2
  exact bodyPost_ret (v := .tuple #[.agg #[.int .i64 0, .int .i64 1, .int .i64 1, .bool false], .bool true]) (by simp [results, Tryz.results196, go_sem]) rfl ⟨rfl, (Below.refl _ _).alloc (Nat.le_refl _) _⟩
set_option maxHeartbeats 1000000 in
theorem shapeOf_23 (w : World) : Calls Tryz.prog 196 #[.string ⟨#[108, 111, 97, 100]⟩] w fun e w' => e = .returned (.tuple #[.agg #[.int .i64 2, .int .i64 1, .int .i64 3, .bool true], .bool true]) ∧ Below w.heap.size w w' := by
  go_enter Tryz.func196, Tryz.ntmps196
  go_wp2
  exact bodyPost_ret (v := .tuple #[.agg #[.int .i64 2, .int .i64 1, .int .i64 3, .bool true], .bool true]) (by simp [results, Tryz.results196, go_sem]) rfl ⟨rfl, (Below.refl _ _).alloc (Nat.le_refl _) _⟩
set_option maxHeartbeats 1000000 in
theorem shapeOf_24 (w : World) : Calls Tryz.prog 196 #[.string ⟨#[115, 116, 111, 114, 101]⟩] w fun e w' => e = .returned (.tuple #[.agg #[.int .i64 4, .int .i64 1, .int .i64 1, .bool true], .bool true]) ∧ Below w.heap.size w w' := by
  go_enter Tryz.func196, Tryz.ntmps196
  go_wp2
  exact bodyPost_ret (v := .tuple #[.agg #[.int .i64 4, .int .i64 1, .int .i64 1, .bool true], .bool true]) (by simp [results, Tryz.results196, go_sem]) rfl ⟨rfl, (Below.refl _ _).alloc (Nat.le_refl _) _⟩
set_option maxHeartbeats 1000000 in
theorem shapeOf_25 (w : World) : Calls Tryz.prog 196 #[.string ⟨#[105, 102]⟩] w fun e w' => e = .returned (.tuple #[.agg #[.int .i64 0, .int .i64 1, .int .i64 0, .bool true], .bool true]) ∧ Below w.heap.size w w' := by
  go_enter Tryz.func196, Tryz.ntmps196
  go_wp2
  exact bodyPost_ret (v := .tuple #[.agg #[.int .i64 0, .int .i64 1, .int .i64 0, .bool true], .bool true]) (by simp [results, Tryz.results196, go_sem]) rfl ⟨rfl, (Below.refl _ _).alloc (Nat.le_refl _) _⟩
set_option maxHeartbeats 1000000 in
theorem shapeOf_26 (w : World) : Calls Tryz.prog 196 #[.string ⟨#[111, 117, 116]⟩] w fun e w' => e = .returned (.tuple #[.agg #[.int .i64 0, .int .i64 0, .int .i64 0, .bool true], .bool true]) ∧ Below w.heap.size w w' := by
  go_enter Tryz.func196, Tryz.ntmps196
  go_wp2
  exact bodyPost_ret (v := .tuple #[.agg #[.int .i64 0, .int .i64 0, .int .i64 0, .bool true], .bool true]) (by simp [results, Tryz.results196, go_sem]) rfl ⟨rfl, (Below.refl _ _).alloc (Nat.le_refl _) _⟩
set_option maxHeartbeats 1000000 in
theorem shapeOf_27 (w : World) : Calls Tryz.prog 196 #[.string ⟨#[111, 117, 116, 114]⟩] w fun e w' => e = .returned (.tuple #[.agg #[.int .i64 0, .int .i64 1, .int .i64 0, .bool false], .bool true]) ∧ Below w.heap.size w w' := by
  go_enter Tryz.func196, Tryz.ntmps196
  go_wp2
  exact bodyPost_ret (v := .tuple #[.agg #[.int .i64 0, .int .i64 1, .int .i64 0, .bool false], .bool true]) (by simp [results, Tryz.results196, go_sem]) rfl ⟨rfl, (Below.refl _ _).alloc (Nat.le_refl _) _⟩
set_option maxHeartbeats 8000000 in
theorem shapeOf_0 (s : ByteArray) (h1 : (s.toList == [115, 101, 116]) = false) (h2 : (s.toList == [99, 111, 112, 121]) = false) (h3 : (s.toList == [97, 100, 100]) = false) (h4 : (s.toList == [115, 117, 98]) = false) (h5 : (s.toList == [97, 110, 100]) = false) (h6 : (s.toList == [111, 114]) = false) (h7 : (s.toList == [120, 111, 114]) = false) (h8 : (s.toList == [110, 111, 114]) = false) (h9 : (s.toList == [115, 108, 116]) = false) (h10 : (s.toList == [115, 108, 116, 117]) = false) (h11 : (s.toList == [115, 104, 108]) = false) (h12 : (s.toList == [115, 104, 114]) = false) (h13 : (s.toList == [115, 97, 114]) = false) (h14 : (s.toList == [109, 117, 108]) = false) (h15 : (s.toList == [109, 117, 108, 104]) = false) (h16 : (s.toList == [109, 117, 108, 104, 117]) = false) (h17 : (s.toList == [113, 117, 111]) = false) (h18 : (s.toList == [114, 101, 109]) = false) (h19 : (s.toList == [113, 117, 111, 117]) = false) (h20 : (s.toList == [114, 101, 109, 117]) = false) (h21 : (s.toList == [111, 118, 101, 114, 43]) = false) (h22 : (s.toList == [111, 118, 101, 114, 45]) = false) (h23 : (s.toList == [108, 111, 97, 100]) = false) (h24 : (s.toList == [115, 116, 111, 114, 101]) = false) (h25 : (s.toList == [105, 102]) = false) (h26 : (s.toList == [111, 117, 116]) = false) (h27 : (s.toList == [111, 117, 116, 114]) = false) (w : World) : Calls Tryz.prog 196 #[.string s] w fun e w' => e = .returned (.tuple #[.agg #[.int .i64 0, .int .i64 0, .int .i64 0, .bool false], .bool false]) ∧ Below w.heap.size w w' := by
  go_enter Tryz.func196, Tryz.ntmps196
  go_wp2
  exact bodyPost_ret (v := .tuple #[.agg #[.int .i64 0, .int .i64 0, .int .i64 0, .bool false], .bool false]) (by simp [results, Tryz.results196, go_sem]) rfl ⟨rfl, (Below.refl _ _).alloc (Nat.le_refl _) _⟩
theorem shapeOf_any (s : ByteArray) (w : World) : Calls Tryz.prog 196 #[.string s] w fun e w' => e = .returned (shpV (kn s)) ∧ Below w.heap.size w w' := by
  by_cases h : kn s = 0
  · rw [h]; exact shapeOf_0 s (kn_ne h 1 (by omega) (by omega)) (kn_ne h 2 (by omega) (by omega)) (kn_ne h 3 (by omega) (by omega)) (kn_ne h 4 (by omega) (by omega)) (kn_ne h 5 (by omega) (by omega)) (kn_ne h 6 (by omega) (by omega)) (kn_ne h 7 (by omega) (by omega)) (kn_ne h 8 (by omega) (by omega)) (kn_ne h 9 (by omega) (by omega)) (kn_ne h 10 (by omega) (by omega)) (kn_ne h 11 (by omega) (by omega)) (kn_ne h 12 (by omega) (by omega)) (kn_ne h 13 (by omega) (by omega)) (kn_ne h 14 (by omega) (by omega)) (kn_ne h 15 (by omega) (by omega)) (kn_ne h 16 (by omega) (by omega)) (kn_ne h 17 (by omega) (by omega)) (kn_ne h 18 (by omega) (by omega)) (kn_ne h 19 (by omega) (by omega)) (kn_ne h 20 (by omega) (by omega)) (kn_ne h 21 (by omega) (by omega)) (kn_ne h 22 (by omega) (by omega)) (kn_ne h 23 (by omega) (by omega)) (kn_ne h 24 (by omega) (by omega)) (kn_ne h 25 (by omega) (by omega)) (kn_ne h 26 (by omega) (by omega)) (kn_ne h 27 (by omega) (by omega)) w
  · have hs := kn_word h
    have hl := kn_lt s
    generalize kn s = k at *
    subst hs
    have hk : k = 1 ∨ k = 2 ∨ k = 3 ∨ k = 4 ∨ k = 5 ∨ k = 6 ∨ k = 7 ∨ k = 8 ∨ k = 9 ∨ k = 10 ∨ k = 11 ∨ k = 12 ∨ k = 13 ∨ k = 14 ∨ k = 15 ∨ k = 16 ∨ k = 17 ∨ k = 18 ∨ k = 19 ∨ k = 20 ∨ k = 21 ∨ k = 22 ∨ k = 23 ∨ k = 24 ∨ k = 25 ∨ k = 26 ∨ k = 27 := by omega
    rcases hk with rfl | rfl | rfl | rfl | rfl | rfl | rfl | rfl | rfl | rfl | rfl | rfl | rfl | rfl | rfl | rfl | rfl | rfl | rfl | rfl | rfl | rfl | rfl | rfl | rfl | rfl | rfl
    · exact shapeOf_1 w
    · exact shapeOf_2 w
    · exact shapeOf_3 w
    · exact shapeOf_4 w
    · exact shapeOf_5 w
    · exact shapeOf_6 w
    · exact shapeOf_7 w
    · exact shapeOf_8 w
    · exact shapeOf_9 w
    · exact shapeOf_10 w
    · exact shapeOf_11 w
    · exact shapeOf_12 w
    · exact shapeOf_13 w
    · exact shapeOf_14 w
    · exact shapeOf_15 w
    · exact shapeOf_16 w
    · exact shapeOf_17 w
    · exact shapeOf_18 w
    · exact shapeOf_19 w
    · exact shapeOf_20 w
    · exact shapeOf_21 w
    · exact shapeOf_22 w
    · exact shapeOf_23 w
    · exact shapeOf_24 w
    · exact shapeOf_25 w
    · exact shapeOf_26 w
    · exact shapeOf_27 w
set_option maxHeartbeats 4000000 in
theorem allows_any (r : Nat) (hr : r ≤ 4) (n : Int) (w : World) : Calls Tryz.prog 197 #[.int .i64 r, .int .i64 n] w fun e w' => e = .returned (.bool (alw r n)) ∧ w' = w := by
  have h : r = 0 ∨ r = 1 ∨ r = 2 ∨ r = 3 ∨ r = 4 := by omega
  rcases h with rfl | rfl | rfl | rfl | rfl
  · go_enter Tryz.func197, Tryz.ntmps197
    go_wp2
    go_ret
    exact ⟨rfl, rfl⟩
  · have e : Hid (alw 1 n = (decide (0 ≤ n) && decide (n < 64))) := rfl
    go_enter Tryz.func197, Tryz.ntmps197
    go_wp2
    all_goals
      go_ret
      refine ⟨?_, rfl⟩
      show Ending.returned (.bool _) = .returned (.bool (alw 1 n))
      rw [e.out]
      congr 2
      rw [Bool.eq_iff_iff]; simp; omega
  · have e : Hid (alw 2 n = (decide (1 ≤ n) && decide (n < 64))) := rfl
    go_enter Tryz.func197, Tryz.ntmps197
    go_wp2
    all_goals
      go_ret
      refine ⟨?_, rfl⟩
      show Ending.returned (.bool _) = .returned (.bool (alw 2 n))
      rw [e.out]
      congr 2
      rw [Bool.eq_iff_iff]; simp; omega
  · by_cases h : n = 1 ∨ n = 2 ∨ n = 4 ∨ n = -1 ∨ n = -2
    · have e : Hid (alw 3 n = true) := by show _ = _; unfold alw; simpa using h
      rcases h with rfl | rfl | rfl | rfl | rfl
      all_goals
        go_enter Tryz.func197, Tryz.ntmps197
        go_wp2
        go_ret
        exact ⟨rfl, rfl⟩
    · have e : Hid (alw 3 n = false) := by show _ = _; unfold alw; simpa using h
      obtain ⟨h1, h2, h3, h4, h5⟩ : n ≠ 1 ∧ n ≠ 2 ∧ n ≠ 4 ∧ n ≠ -1 ∧ n ≠ -2 := by omega
      have d1 : (n == 1) = false := by simpa using h1
      have d2 : (n == 2) = false := by simpa using h2
      have d3 : (n == 4) = false := by simpa using h3
      have d4 : (n == -1) = false := by simpa using h4
      have d5 : (n == -2) = false := by simpa using h5
      clear h h1 h2 h3 h4 h5
      go_enter Tryz.func197, Tryz.ntmps197
      go_wp2
      go_ret
      exact ⟨by rw [e.out]; simp, rfl⟩
  · by_cases h : n = 1 ∨ n = 2 ∨ n = 4
    · have e : Hid (alw 4 n = true) := by show _ = _; unfold alw; simpa using h
      rcases h with rfl | rfl | rfl
      all_goals
        go_enter Tryz.func197, Tryz.ntmps197
        go_wp2
        go_ret
        exact ⟨rfl, rfl⟩
    · have e : Hid (alw 4 n = false) := by show _ = _; unfold alw; simpa using h
      obtain ⟨h1, h2, h3⟩ : n ≠ 1 ∧ n ≠ 2 ∧ n ≠ 4 := by omega
      have d1 : (n == 1) = false := by simpa using h1
      have d2 : (n == 2) = false := by simpa using h2
      have d3 : (n == 4) = false := by simpa using h3
      clear h h1 h2 h3
      go_enter Tryz.func197, Tryz.ntmps197
      go_wp2
      go_ret
      exact ⟨by rw [e.out]; simp, rfl⟩
end Go.Proofs.YtflagpkmebdckaaGreatDoor
/-
  Bytes of memory with stores that wait: what a load by bytes comes to.
-/
namespace Go.Proofs.YtflagpkmebdckaaGreatDoor
open Num
set_option linter.unusedVariables false
theorem wdu (v : Int) (n : Nat) (h1 : 1 ≤ n) (h2 : n ≤ 32) : wd v n false = v % 2 ^ n := by
  unfold wd; rw [if_neg (by omega), if_neg (by simp)]; simp
theorem wd_congr (n : Nat) (y z : Int) (sg : Bool) (h1 : 1 ≤ n) (h2 : n ≤ 32) (h : y % 2 ^ n = z % 2 ^ n) : wd y n sg = wd z n sg := by
  have hn : ¬ ((n : Int) < 1 ∨ 32 < (n : Int)) := by omega
  unfold wd; simp only [hn, if_false, Int.toNat_natCast, h]
theorem four (y : Int) (h0 : 0 ≤ y) (h1 : y < 4294967296) : ∃ a b c d : Int, y = 16777216 * a + 65536 * b + 256 * c + d ∧ 0 ≤ a ∧ a < 256 ∧ 0 ≤ b ∧ b < 256 ∧ 0 ≤ c ∧ c < 256 ∧ 0 ≤ d ∧ d < 256 :=
  ⟨y / 16777216, y / 65536 % 256, y / 256 % 256, y % 256, by omega, by omega, by omega, by omega, by omega, by omega, by omega, by omega, by omega⟩
theorem m4 (x : Int) : x % 4 = 0 ∨ x % 4 = 1 ∨ x % 4 = 2 ∨ x % 4 = 3 := by omega
/-- byte j of a word, the highest first -/
def bytW (x : Int) (j : Int) : Int := if j = 0 then x / 16777216 % 256 else if j = 1 then x / 65536 % 256 else if j = 2 then x / 256 % 256 else x % 256
theorem ld1 (m : Nat → Int) (x : Int) : ld m x 1 false = bytW (m (x / 4).toNat) (x % 4) := by
  unfold ld bytW
  rw [show (8 * 1 : Int) = ((8 : Nat) : Int) by rfl, wdu _ 8 (by omega) (by omega)]
  rcases m4 x with h | h | h | h
  · rw [show (bhd x 1).toNat = 24 by unfold bhd; omega, h]; rfl
  · rw [show (bhd x 1).toNat = 16 by unfold bhd; omega, h]; rfl
  · rw [show (bhd x 1).toNat = 8 by unfold bhd; omega, h]; rfl
  · rw [show (bhd x 1).toNat = 0 by unfold bhd; omega, h]; simp
theorem bytW_bd (x j : Int) : 0 ≤ bytW x j ∧ bytW x j < 256 := by unfold bytW; split <;> (try split) <;> (try split) <;> omega
theorem ld1_bd (m : Nat → Int) (x : Int) : 0 ≤ ld m x 1 false ∧ ld m x 1 false < 256 := by rw [ld1]; exact bytW_bd _ _
/-- a load, byte by byte -/
def byV (f : Int → Int) (a : Int) : Nat → Int
  | 0 => 0
  | n + 1 => byV f a n * 256 + f (a + n)
theorem ld_bytes (m : Nat → Int) (a s : Int) (sg : Bool) (hc : chk a s = 0) (h0 : 0 ≤ a) (mb : ∀ i, 0 ≤ m i ∧ m i < 4294967296) : ld m a s sg = wd (byV (fun x => ld m x 1 false) a s.toNat) (8 * s) sg := by
  obtain ⟨hs, hm, hf⟩ := chk_ok hc
  have mx := mb (a / 4).toNat
  rcases hs with rfl | rfl | rfl
  · show ld m a 1 sg = wd (0 * 256 + ld m (a + (0 : Nat)) 1 false) (8 * 1) sg
    rw [show a + ((0 : Nat) : Int) = a by omega, ld1]
    unfold ld
    generalize hx : m (a / 4).toNat = x at *
    refine wd_congr 8 _ _ sg (by omega) (by omega) ?_
    rw [show (2 : Int) ^ 8 = 256 by rfl]
    unfold bytW
    rcases m4 a with h | h | h | h
    · rw [show (bhd a 1).toNat = 24 by unfold bhd; omega, h]; simp <;> omega
    · rw [show (bhd a 1).toNat = 16 by unfold bhd; omega, h]; simp <;> omega
    · rw [show (bhd a 1).toNat = 8 by unfold bhd; omega, h]; simp <;> omega
    · rw [show (bhd a 1).toNat = 0 by unfold bhd; omega, h]; simp <;> omega
  · show ld m a 2 sg = wd ((0 * 256 + ld m (a + (0 : Nat)) 1 false) * 256 + ld m (a + (1 : Nat)) 1 false) (8 * 2) sg
    rw [show a + ((0 : Nat) : Int) = a by omega, show ((1 : Nat) : Int) = 1 by rfl, ld1, ld1]
    have e4 : ((a + 1) / 4).toNat = (a / 4).toNat := by omega
    rw [e4]
    unfold ld
    generalize hx : m (a / 4).toNat = x at *
    refine wd_congr 16 _ _ sg (by omega) (by omega) ?_
    rw [show (2 : Int) ^ 16 = 65536 by rfl]
    unfold bytW
    have : a % 4 = 0 ∨ a % 4 = 2 := by omega
    rcases this with h | h
    · rw [show (bhd a 2).toNat = 16 by unfold bhd; omega, h, show (a + 1) % 4 = 1 by omega]; simp; omega
    · rw [show (bhd a 2).toNat = 0 by unfold bhd; omega, h, show (a + 1) % 4 = 3 by omega]; simp; omega
  · show ld m a 4 sg = wd ((((0 * 256 + ld m (a + (0 : Nat)) 1 false) * 256 + ld m (a + (1 : Nat)) 1 false) * 256 + ld m (a + (2 : Nat)) 1 false) * 256 + ld m (a + (3 : Nat)) 1 false) (8 * 4) sg
    rw [show a + ((0 : Nat) : Int) = a by omega, show ((1 : Nat) : Int) = 1 by rfl, show ((2 : Nat) : Int) = 2 by rfl, show ((3 : Nat) : Int) = 3 by rfl, ld1, ld1, ld1, ld1]
    rw [show ((a + 1) / 4).toNat = (a / 4).toNat by omega, show ((a + 2) / 4).toNat = (a / 4).toNat by omega, show ((a + 3) / 4).toNat = (a / 4).toNat by omega]
    unfold ld
    generalize hx : m (a / 4).toNat = x at *
    have h : a % 4 = 0 := by omega
    unfold bytW
    rw [show (bhd a 4).toNat = 0 by unfold bhd; omega, h, show (a + 1) % 4 = 1 by omega, show (a + 2) % 4 = 2 by omega, show (a + 3) % 4 = 3 by omega]
    congr 1
    simp; omega
/-- is an address one of those that a store that waits lies at? -/
def hitB (p : Pend) (x : Int) : Bool := decide (p.a ≤ x ∧ x < p.a + p.s)
/-- its byte there -/
def pByte (p : Pend) (x : Int) : Int := p.v / 2 ^ (8 * (p.s - 1 - (x - p.a))).toNat % 256
structure Pend.ok (p : Pend) : Prop where
  c : chk p.a p.s = 0
  a0 : 0 ≤ p.a
  v0 : 0 ≤ p.v
  v1 : p.v < 4294967296
theorem upd_byte (m : Nat → Int) (p : Pend) (x : Int) (ok : p.ok) (h0 : 0 ≤ x) (mb : ∀ i, 0 ≤ m i ∧ m i < 4294967296) : ld (p.put m) x 1 false = if hitB p x = true then pByte p x else ld m x 1 false := by
  obtain ⟨hc, a0, v0, v1⟩ := ok
  obtain ⟨a, s, v⟩ := p
  simp only at hc a0 v0 v1
  obtain ⟨hs, hm, hf⟩ := chk_ok hc
  rw [ld1, ld1]
  unfold Pend.put upd
  simp only
  by_cases hw : (x / 4).toNat = (a / 4).toNat
  · rw [if_pos hw, hw]
    have mx := mb (a / 4).toNat
    generalize m (a / 4).toNat = y at mx
    obtain ⟨y0, y1, y2, y3, rfl, ya, yb, yc, yd, ye, yf, yg, yh⟩ := four y mx.1 mx.2
    obtain ⟨z0, z1, z2, z3, rfl, za, zb, zc, zd, ze, zf, zg, zh⟩ := four v v0 v1
    have q1 : (16777216 * y0 + 65536 * y1 + 256 * y2 + y3) / 65536 = 256 * y0 + y1 := by omega
    have q2 : (16777216 * y0 + 65536 * y1 + 256 * y2 + y3) / 16777216 = y0 := by omega
    have q3 : (16777216 * y0 + 65536 * y1 + 256 * y2 + y3) / 256 = 65536 * y0 + 256 * y1 + y2 := by omega
    have q4 : (16777216 * y0 + 65536 * y1 + 256 * y2 + y3) % 256 = y3 := by omega
    have q5 : (16777216 * y0 + 65536 * y1 + 256 * y2 + y3) % 65536 = 256 * y2 + y3 := by omega
    have q6 : (16777216 * z0 + 65536 * z1 + 256 * z2 + z3) % 256 = z3 := by omega
    have q7 : (16777216 * z0 + 65536 * z1 + 256 * z2 + z3) % 65536 = 256 * z2 + z3 := by omega
    have q8 : (16777216 * y0 + 65536 * y1 + 256 * y2 + y3) % 16777216 = 65536 * y1 + 256 * y2 + y3 := by omega
    have hxa : x / 4 = a / 4 := by omega
    unfold hitB pByte
    simp only [decide_eq_true_eq]
    rcases hs with rfl | rfl | rfl
    · rcases m4 a with ha | ha | ha | ha <;> rcases m4 x with hx | hx | hx | hx <;> rw [hx] <;>
      first
      | (rw [if_pos (by omega), show (8 * (1 - 1 - (x - a))).toNat = 0 by omega]; unfold bytW stw bhd; rw [ha]; simp <;> omega)
      | (rw [if_neg (by omega)]; unfold bytW stw bhd; rw [ha]; simp <;> omega)
    · have : a % 4 = 0 ∨ a % 4 = 2 := by omega
      rcases this with ha | ha <;> rcases m4 x with hx | hx | hx | hx <;> rw [hx] <;>
      first
      | (rw [if_pos (by omega), show (8 * (2 - 1 - (x - a))).toNat = 0 by omega]; unfold bytW stw bhd; rw [ha]; simp <;> omega)
      | (rw [if_pos (by omega), show (8 * (2 - 1 - (x - a))).toNat = 8 by omega]; unfold bytW stw bhd; rw [ha]; simp <;> omega)
      | (rw [if_neg (by omega)]; unfold bytW stw bhd; rw [ha]; simp <;> omega)
    · have ha : a % 4 = 0 := by omega
      rcases m4 x with hx | hx | hx | hx <;> rw [hx] <;> rw [if_pos (by omega)]
      · rw [show (8 * (4 - 1 - (x - a))).toNat = 24 by omega]; unfold bytW stw bhd; rw [ha]; simp <;> omega
      · rw [show (8 * (4 - 1 - (x - a))).toNat = 16 by omega]; unfold bytW stw bhd; rw [ha]; simp <;> omega
      · rw [show (8 * (4 - 1 - (x - a))).toNat = 8 by omega]; unfold bytW stw bhd; rw [ha]; simp <;> omega
      · rw [show (8 * (4 - 1 - (x - a))).toNat = 0 by omega]; unfold bytW stw bhd; rw [ha]; simp <;> omega
  · rw [if_neg hw]
    have : hitB ⟨a, s, v⟩ x = false := by
      unfold hitB; simp only [decide_eq_false_iff_not]
      rcases hs with rfl | rfl | rfl <;> omega
    rw [this]; simp
theorem put_bd {m : Nat → Int} {p : Pend} (ok : p.ok) (mb : ∀ i, 0 ≤ m i ∧ m i < 4294967296) : ∀ i, 0 ≤ p.put m i ∧ p.put m i < 4294967296 := by
  obtain ⟨hs, hm, _⟩ := chk_ok ok.c
  exact upd_bd m p.a p.s p.v hs hm mb
theorem vw_bd {m : Nat → Int} (mb : ∀ i, 0 ≤ m i ∧ m i < 4294967296) : ∀ (l : List Pend), (∀ p ∈ l, p.ok) → ∀ i, 0 ≤ vw m l i ∧ vw m l i < 4294967296 := by
  intro l
  unfold vw
  induction l generalizing m with
  | nil => intro _; exact mb
  | cons p l ih => intro h; exact ih (put_bd (h p (List.mem_cons_self ..)) mb) (fun q hq => h q (List.mem_cons_of_mem _ hq))
theorem vw_snoc (m : Nat → Int) (l : List Pend) (p : Pend) : vw m (l ++ [p]) = p.put (vw m l) := by simp [vw, List.foldl_append]
/-- the byte at an address, by what waits: the last one counts -/
def lastB (m : Nat → Int) (x : Int) : List Pend → Int
  | [] => ld m x 1 false
  | p :: l => if hitB p x = true then pByte p x else lastB m x l
theorem vw_byte {m : Nat → Int} (mb : ∀ i, 0 ≤ m i ∧ m i < 4294967296) (x : Int) (h0 : 0 ≤ x) : ∀ l : List Pend, (∀ p ∈ l, p.ok) → ld (vw m l.reverse) x 1 false = lastB m x l := by
  intro l
  induction l with
  | nil => intro _; rfl
  | cons p l ih =>
    intro h
    rw [List.reverse_cons, vw_snoc, upd_byte _ _ _ (h p (List.mem_cons_self ..)) h0 (vw_bd mb _ (fun q hq => h q (List.mem_cons_of_mem _ (List.mem_reverse.1 hq)))), ih (fun q hq => h q (List.mem_cons_of_mem _ hq))]
    rfl
end Go.Proofs.YtflagpkmebdckaaGreatDoor
