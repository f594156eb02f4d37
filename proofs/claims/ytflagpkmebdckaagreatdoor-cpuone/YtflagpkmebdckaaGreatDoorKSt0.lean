/-
  A processor's state: its numbers, and how memory holds them.
-/
import Derived.Laws.StructEq
import Derived.Deep.MidRow
import Derived.ChangeKeysEq
import Derived.Lib.ParseIntB
import Derived.Lib.ItoaNum
import Derived.Lib.Strings
import Derived.Test.YtflagpkmebdckaaGreatDoorQTab
import Derived.Test.YtflagpkmebdckaaGreatDoorKNum
import Derived.Test.YtflagpkmebdckaaGreatDoorKIrChk2
import Derived.Test.YtflagpkmebdckaaGreatDoorKPlPure
import Derived.Test.YtflagpkmebdckaaGreatDoorJRes3
namespace Go.Proofs.YtflagpkmebdckaaGreatDoor
open Go.RowKit Go.Maps
open Num
set_option linter.unusedVariables false
/-- the state -/
structure St where
  r : Nat → Int
  hi : Int
  lo : Int
  pc : Int
  nx : Int
  sl : Bool
  st : Int
  ca : Int
  ep : Int
  bd : Int
  cm : Int
  ct : Int
structure St.ok (S : St) : Prop where
  r : ∀ i, u32 (S.r i)
  hi : u32 S.hi
  lo : u32 S.lo
  pc : u32 S.pc
  nx : u32 S.nx
  st : u32 S.st
  ca : u32 S.ca
  ep : u32 S.ep
  bd : u32 S.bd
  cm : u32 S.cm
  c0 : -9223372036854775808 ≤ S.ct
  c1 : S.ct < 9223372036854775807
/-- what each of its cells holds -/
def stV (S : St) (j : Nat) : Value :=
  if j < 32 then .int .u32 (S.r j) else if j = 32 then .int .u32 S.hi else if j = 33 then .int .u32 S.lo else if j = 34 then .int .u32 S.pc else if j = 35 then .int .u32 S.nx else if j = 36 then .bool S.sl else if j = 37 then .int .u32 S.st else if j = 38 then .int .u32 S.ca else if j = 39 then .int .u32 S.ep else if j = 40 then .int .u32 S.bd else if j = 41 then .int .u32 S.cm else .int .i64 S.ct
structure StAt (w : World) (sb : Nat) (S : St) : Prop where
  c : ∀ j, j < 43 → w.cell? ⟨sb, j, none⟩ = some (stV S j)
  fz : ∀ j, w.frozen? ⟨sb, j, none⟩ = false
theorem StAt.lt {w : World} {sb : Nat} {S : St} (h : StAt w sb S) : sb < w.heap.size := World.block_lt_of_cell? _ _ (h.c 0 (by omega))
theorem StAt.block {w w' : World} {sb : Nat} {S : St} (h : StAt w sb S) (hb : w'.heap[sb]? = w.heap[sb]?) : StAt w' sb S :=
  ⟨fun j hj => (World.cell?_of_block (a := ⟨sb, j, none⟩) hb).trans (h.c j hj), fun j => (World.frozen?_of_block (a := ⟨sb, j, none⟩) hb).trans (h.fz j)⟩
theorem StAt.stays {w w' : World} {sb : Nat} {S : St} (h : StAt w sb S) (hb : Below w.heap.size w w') : StAt w' sb S := h.block (hb.block _ h.lt)
theorem StAt.drew {w : World} {sb : Nat} {S : St} (h : StAt w sb S) : StAt w.drew sb S := ⟨h.c, h.fz⟩
theorem StAt.drewN {w : World} {sb : Nat} {S : St} (h : StAt w sb S) (n : Nat) : StAt (w.drewN n) sb S := ⟨h.c, h.fz⟩
theorem StAt.put {w : World} {sb : Nat} {S S' : St} {j : Nat} {v : Value} (h : StAt w sb S) (hj : j < 43) (hv : stV S' j = v) (ho : ∀ i, i < 43 → i ≠ j → stV S' i = stV S i) : StAt (w.setCell ⟨sb, j, none⟩ v) sb S' := by
  refine ⟨fun i hi => ?_, fun i => by rw [World.frozen?_setCell]; exact h.fz i⟩
  by_cases e : i = j
  · subst e; rw [World.cell?_setCell_same _ _ _ (h.c i hi), hv]
  · rw [World.cell?_setCell_other _ _ _ _ (by intro e'; injection e' with e1 e2; exact e e2.symm), h.c i hi, ho i hi e]
/-- the cells that are read by name -/
theorem StAt.told {w : World} {sb : Nat} {S : St} (h : StAt w sb S) : w.cell? ⟨sb, 32, none⟩ = some (.int .u32 S.hi) ∧ w.cell? ⟨sb, 33, none⟩ = some (.int .u32 S.lo) ∧ w.cell? ⟨sb, 34, none⟩ = some (.int .u32 S.pc) ∧ w.cell? ⟨sb, 35, none⟩ = some (.int .u32 S.nx) ∧ w.cell? ⟨sb, 36, none⟩ = some (.bool S.sl) ∧ w.cell? ⟨sb, 37, none⟩ = some (.int .u32 S.st) ∧ w.cell? ⟨sb, 38, none⟩ = some (.int .u32 S.ca) ∧ w.cell? ⟨sb, 39, none⟩ = some (.int .u32 S.ep) ∧ w.cell? ⟨sb, 40, none⟩ = some (.int .u32 S.bd) ∧ w.cell? ⟨sb, 41, none⟩ = some (.int .u32 S.cm) ∧ w.cell? ⟨sb, 42, none⟩ = some (.int .i64 S.ct) :=
  ⟨h.c 32 (by omega), h.c 33 (by omega), h.c 34 (by omega), h.c 35 (by omega), h.c 36 (by omega), h.c 37 (by omega), h.c 38 (by omega), h.c 39 (by omega), h.c 40 (by omega), h.c 41 (by omega), h.c 42 (by omega)⟩
theorem StAt.reg {w : World} {sb : Nat} {S : St} (h : StAt w sb S) {i : Nat} (hi : i < 32) : w.cell? ⟨sb, i, none⟩ = some (.int .u32 (S.r i)) := by
  rw [h.c i (by omega)]; unfold stV; rw [if_pos hi]
abbrev StRow (w : World) (b : Nat) (S : St) : Prop := RowIs w b 25 43 (stV S)
theorem StRow.at {w : World} {b : Nat} {S : St} (h : StRow w b S) : StAt w b S := ⟨fun j hj => h.cell hj, fun j => h.fz j⟩
end Go.Proofs.YtflagpkmebdckaaGreatDoor
/-
  A state, loaded whole; two that are one are equal.
-/
namespace Go.Proofs.YtflagpkmebdckaaGreatDoor
open Go.RowKit
set_option linter.unusedVariables false
def stL (S : St) : List Value := (List.range 43).map (stV S)
def stA (S : St) : Array Value := (stL S).toArray
theorem stA_get (S : St) {j : Nat} (h : j < 43) : (stA S)[j]? = some (stV S j) := by
  unfold stA stL; rw [List.getElem?_toArray, List.getElem?_map, List.getElem?_range h]; rfl
theorem load_st {w : World} {sb : Nat} {S : St} (A : StAt w sb S) : (loadVar 25 ⟨sb, 0, none⟩).run Tryz.prog w = .ok (.agg (stA S)) w :=
  run_loadVar_mid w sb 0 25 (stL S) _ (fun j v hv => by
    have hj : j < 43 := by have := (List.getElem?_eq_some_iff.1 hv).1; simpa [stL] using this
    have : (stL S)[j]? = some (stV S j) := by have := stA_get S hj; simpa [stA] using this
    rw [this] at hv
    rw [Nat.zero_add, A.c j hj]; exact hv) Tryz.underlying25 rfl (by show _ = some 43; kernel_rfl)
theorem part_one (t : TypeId) (ht : ∀ w, (isAgg t).run Tryz.prog w = .ok false w) (xs : Array Value) (off : Nat) (v : Value) (h : xs[off]? = some v) (w : World) : (part t xs off).run Tryz.prog w = .ok v w := by
  simp [part, ht, h, go_sem]
theorem agg23 (w : World) : (isAgg 22).run Tryz.prog w = .ok false w := by kernel_rfl
theorem agg4 (w : World) : (isAgg 4).run Tryz.prog w = .ok false w := by kernel_rfl
theorem agg3 (w : World) : (isAgg 3).run Tryz.prog w = .ok false w := by kernel_rfl
theorem items_eq (d : Nat) (xs : Array Value) (r : Nat → Int) (hx : ∀ i, i < 32 → xs[i]? = some (.int .u32 (r i))) (w : World) : ∀ is : List Nat, (∀ i ∈ is, i < 32) → (Op.eqItems (d + 1) 22 1 xs xs is).run Tryz.prog w = .ok true w
  | [], _ => by simp [Op.eqItems]
  | i :: is, h => by
    have hp := part_one 22 agg23 xs (i * 1) _ (by rw [Nat.mul_one]; exact hx i (h i (by simp))) w
    have ih := items_eq d xs r hx w is (fun j hj => h j (by simp [hj]))
    have he := run_equalIn_int (P := Tryz.prog) w d 22 .u32 .u32 (r i) (r i) Tryz.underlying22
    simp only [Op.eqItems, Sem.run_bind, hp, Result.andThen_ok, he]
    simpa using ih
theorem arr_eq (d : Nat) (xs : Array Value) (r : Nat → Int) (hx : ∀ i, i < 32 → xs[i]? = some (.int .u32 (r i))) (w : World) : (Op.equalIn (d + 2) 23 (.agg xs) (.agg xs)).run Tryz.prog w = .ok true w := by
  have hc : Tryz.prog.cellsOf 22 = 1 := by kernel_rfl
  obtain ⟨i23, hi⟩ : ∃ i, Tryz.prog.info? 22 = some i := by
    cases h : Tryz.prog.info? 22 with
    | some i => exact ⟨i, rfl⟩
    | none =>
      have : (Tryz.prog.info? 22).isSome = true := by kernel_rfl
      rw [h] at this; cases this
  rw [run_equalIn_array w (d + 1) xs xs Tryz.underlying23 hi, hc]
  exact items_eq d xs r hx w _ (fun i hi => List.mem_range.1 hi)
/-- a field of two that are one -/
def FieldEq (xs : Array Value) (t off : Nat) (w : World) : Prop := ∃ v, (part t xs off).run Tryz.prog w = .ok v w ∧ (Op.equalIn 9999 t v v).run Tryz.prog w = .ok true w
theorem fields_eq (xs : Array Value) (w : World) : ∀ fs : List Field, (∀ f ∈ fs, FieldEq xs f.type f.offset w) → (Op.eqFields 9999 xs xs fs).run Tryz.prog w = .ok true w
  | [], _ => by simp [Op.eqFields]
  | f :: fs, h => by
    obtain ⟨v, hp, he⟩ := h f (by simp)
    have ih := fields_eq xs w fs (fun g hg => h g (by simp [hg]))
    simp only [Op.eqFields]
    split
    · simp only [Sem.run_bind, hp, Result.andThen_ok, he]
      simpa using ih
    · exact ih
theorem fields32 : (Tryz.prog.fieldsOf 25).toList.map (fun f => (f.type, f.offset)) = [(23, 0), (22, 32), (22, 33), (22, 34), (22, 35), (4, 36), (22, 37), (22, 38), (22, 39), (22, 40), (22, 41), (3, 42)] := by kernel_rfl
theorem word_eq (S : St) (j : Nat) (hj : j < 43) (n : Int) (h : stV S j = .int .u32 n) (w : World) : FieldEq (stA S) 22 j w :=
  ⟨_, part_one 22 agg23 (stA S) j _ (stA_get S hj) w, by rw [h]; have := run_equalIn_int (P := Tryz.prog) w 9998 22 .u32 .u32 n n Tryz.underlying22; rw [this]; simp⟩
theorem eq_st (S : St) (w : World) : (binOp .eql 25 (.agg (stA S)) (.agg (stA S))).run Tryz.prog w = .ok (.bool true) w := by
  rw [run_eql_struct, run_equalIn_agg w 9999 25 _ _ (by kernel_rfl) (by kernel_rfl), fields_eq (stA S) w _ ?_]
  · rfl
  intro f hf
  have hm : (f.type, f.offset) ∈ [(23, 0), (22, 32), (22, 33), (22, 34), (22, 35), (4, 36), (22, 37), (22, 38), (22, 39), (22, 40), (22, 41), (3, 42)] := by rw [← fields32]; exact List.mem_map.2 ⟨f, hf, rfl⟩
  generalize f.type = t at hm
  generalize f.offset = o at hm
  simp only [List.mem_cons, Prod.mk.injEq, List.not_mem_nil, or_false] at hm
  rcases hm with ⟨rfl, rfl⟩ | ⟨rfl, rfl⟩ | ⟨rfl, rfl⟩ | ⟨rfl, rfl⟩ | ⟨rfl, rfl⟩ | ⟨rfl, rfl⟩ | ⟨rfl, rfl⟩ | ⟨rfl, rfl⟩ | ⟨rfl, rfl⟩ | ⟨rfl, rfl⟩ | ⟨rfl, rfl⟩ | ⟨rfl, rfl⟩
  · refine ⟨.agg ((stA S).extract 0 32), by simp [part, go_sem], arr_eq 9997 _ S.r (fun i hi => ?_) w⟩
    rw [Array.getElem?_extract, if_pos (by simp [stA, stL]; omega), Nat.zero_add, stA_get S (by omega)]
    simp [stV, hi]
  · exact word_eq S 32 (by omega) S.hi rfl w
  · exact word_eq S 33 (by omega) S.lo rfl w
  · exact word_eq S 34 (by omega) S.pc rfl w
  · exact word_eq S 35 (by omega) S.nx rfl w
  · exact ⟨_, part_one 4 agg4 (stA S) 36 _ (stA_get S (by omega)) w, by have := run_equalIn_bool' (P := Tryz.prog) w 9998 4 S.sl S.sl Tryz.underlying4; rw [show stV S 36 = .bool S.sl from rfl, this]; simp⟩
  · exact word_eq S 37 (by omega) S.st rfl w
  · exact word_eq S 38 (by omega) S.ca rfl w
  · exact word_eq S 39 (by omega) S.ep rfl w
  · exact word_eq S 40 (by omega) S.bd rfl w
  · exact word_eq S 41 (by omega) S.cm rfl w
  · exact ⟨_, part_one 3 agg3 (stA S) 42 _ (stA_get S (by omega)) w, by have := run_equalIn_int (P := Tryz.prog) w 9998 3 .i64 .i64 S.ct S.ct Tryz.underlying3; rw [show stV S 42 = .int .i64 S.ct from rfl, this]; simp⟩
theorem guard32 : Tryz.prog.eqGuardType Tryz.prog.depth 25 = false := by kernel_rfl
theorem exec_eq {ρ : Operand → Value} {o : Oper} {x y : Operand} {ty : TypeId} {SA : Array Value} (ho : o.op = .binOp .eql 25 x y ty) (hx : ρ x = .agg SA) (hy : ρ y = .agg SA) (W : World) (heq : (binOp .eql 25 (.agg SA) (.agg SA)).run Tryz.prog W = .ok (.bool true) W) : (execOp ρ o).run Tryz.prog W = .ok (.value (.bool true)) W := by
  have hg := run_eqGuard_agg (P := Tryz.prog) W .eql 25 x y SA SA guard32
  unfold execOp
  simp only [ho, hx, hy, Sem.run_bind, hg, Result.andThen_ok, heq]
  first | rfl | simp [go_sem]
theorem stA_congr {S S' : St} (h : ∀ j, j < 43 → stV S j = stV S' j) : stA S = stA S' := by
  unfold stA stL; congr 1; exact List.map_congr_left (fun j hj => h j (List.mem_range.1 hj))
def zS : St := ⟨fun _ => 0, 0, 0, 0, 0, false, 0, 0, 0, 0, 0, 0⟩
theorem zeroSt (w : World) : (zeroValue 25).run Tryz.prog w = .ok (.agg (stA zS)) w := by kernel_rfl
theorem stA_size (S : St) : (stA S).size = 43 := by simp [stA, stL]
theorem stA_one (S : St) : (stA S).all (·.oneCell') = true := by
  rw [Array.all_eq_true_iff_forall_mem]
  intro x hx
  simp only [stA, stL, List.mem_toArray, List.mem_map] at hx
  obtain ⟨i, _, rfl⟩ := hx
  unfold stV
  (repeat' split) <;> rfl
section
variable {ops : Array Oper} {rest : List Oper} {o : Oper} {a : Act} {w : World} {Q : Exit → Act → World → Prop}
theorem wpList_allocSt (hg : o.guard = none) (hop : o.op = Op.alloc 25)
    (h : wpList Tryz.prog ops Q rest (a.put o.dst (.pointer (some ⟨w.heap.size, 0, none⟩))) (w.alloc (.cells (stA zS) 25))) : wpList Tryz.prog ops Q (o :: rest) a w := by
  refine wpList_plain hg fun K hK => ?_
  unfold Oper.wp
  have e : (execOp a.eval o).run Tryz.prog w = .ok (.value (.pointer (some ⟨w.heap.size, 0, none⟩))) (w.alloc (.cells (stA zS) 25)) := by
    unfold execOp; rw [hop]
    simp only [Instr.alloc, newVar, newRow, Sem.run_bind, zeroSt, Result.andThen_ok]
    rfl
  rw [e, Oper.upon_value]
  exact hK _ _ h
theorem wpList_storeSt (hgd : o.guard = none) (x y : Operand) (ho : o.op = .store 25 x y)
    (old cells : Array Value) (hx : a.eval x = .pointer (some ⟨w.heap.size, 0, none⟩)) (hy : a.eval y = .agg cells) (ho' : old.size = 43) (hs : cells.size = 43) (h1 : cells.all (·.oneCell') = true)
    (h : wpList Tryz.prog ops Q rest (a.put o.dst undef) (w.alloc (.cells cells 25))) : wpList Tryz.prog ops Q (o :: rest) a (w.alloc (.cells old 25)) := by
  refine wpList_store_row hgd 25 x y ho w.heap.size cells hx hy 25 old (heap_alloc_new w _) (by rw [hs]; kernel_rfl) (by omega) h1 ?_
  rw [setRow_new]; exact h
end
end Go.Proofs.YtflagpkmebdckaaGreatDoor
/-
  Numerals, as the program and the document's answer read and write them: lists of bytes, no Go in sight.
-/
namespace Go.Proofs.YtflagpkmebdckaaGreatDoor.Txt
open Go.Lib
set_option linter.unusedVariables false
def step (a : Nat) (c : UInt8) : Nat := a * 10 + (c.toNat - 48)
/-- what digits spell -/
def val (l : List UInt8) : Nat := l.foldl step 0
/-! ### the document's answer's number at a place -/
/-! ### the program's number at a place -/
end Go.Proofs.YtflagpkmebdckaaGreatDoor.Txt
/-
  The texts of instructions, written and read by forms, and as the document's answer reads them; one is the other. Lists of bytes, no Go in sight.
-/
namespace Go.Proofs.YtflagpkmebdckaaGreatDoor.Fm
open Go.Lib Tab Txt
set_option linter.unusedVariables false
/-- the names, and the order of the fields in a text -/
def nmL : List (List UInt8) := [[], [115, 108, 108], [115, 114, 108], [115, 114, 97], [115, 108, 108, 118], [115, 114, 108, 118], [115, 114, 97, 118], [106, 114], [106, 97, 108, 114], [115, 121, 115, 99, 97, 108, 108], [98, 114, 101, 97, 107], [109, 102, 104, 105], [109, 116, 104, 105], [109, 102, 108, 111], [109, 116, 108, 111], [109, 117, 108, 116], [109, 117, 108, 116, 117], [100, 105, 118], [100, 105, 118, 117], [97, 100, 100], [97, 100, 100, 117], [115, 117, 98], [115, 117, 98, 117], [97, 110, 100], [111, 114], [120, 111, 114], [110, 111, 114], [115, 108, 116], [115, 108, 116, 117], [106], [106, 97, 108], [98, 101, 113], [98, 110, 101], [98, 108, 101, 122], [98, 103, 116, 122], [97, 100, 100, 105], [97, 100, 100, 105, 117], [115, 108, 116, 105], [115, 108, 116, 105, 117], [97, 110, 100, 105], [111, 114, 105], [120, 111, 114, 105], [108, 117, 105], [109, 102, 99, 48], [109, 116, 99, 48], [101, 114, 101, 116], [108, 98], [108, 104], [108, 119], [108, 98, 117], [108, 104, 117], [115, 98], [115, 104], [115, 119]]
def orL : List (List UInt8) := [[], [68, 84, 97], [68, 84, 97], [68, 84, 97], [68, 84, 83], [68, 84, 83], [68, 84, 83], [83], [68, 83], [], [], [68], [83], [68], [83], [83, 84], [83, 84], [83, 84], [83, 84], [68, 83, 84], [68, 83, 84], [68, 83, 84], [68, 83, 84], [68, 83, 84], [68, 83, 84], [68, 83, 84], [68, 83, 84], [68, 83, 84], [68, 83, 84], [106], [106], [83, 84, 110], [83, 84, 110], [83, 110], [83, 110], [84, 83, 110], [84, 83, 110], [84, 83, 110], [84, 83, 110], [84, 83, 117], [84, 83, 117], [84, 83, 117], [84, 117], [84, 68], [84, 68], [], [84, 109], [84, 109], [84, 109], [84, 109], [84, 109], [84, 109], [84, 109], [84, 109]]
def nme (k : Nat) : List UInt8 := nmL.getD k []
def ordr (k : Nat) : List UInt8 := orL.getD k []
/-- an instruction's fields -/
structure F where
  s : Int
  t : Int
  d : Int
  m : Int
def regB (c : UInt8) : Bool := c == 83 || c == 84 || c == 68
def numB (c : UInt8) : Bool := regB c || c == 97 || c == 105 || c == 117 || c == 106
def lowB (c : UInt8) : Int := if c = 105 then -32768 else 0
def highB (c : UInt8) : Int := if regB c || c == 97 then 31 else if c = 105 then 32767 else if c = 117 then 65535 else if c = 106 then 67108863 else 0
def setF (f : F) (c : UInt8) (n : Int) : F := if c = 83 then { f with s := n } else if c = 84 then { f with t := n } else if c = 68 then { f with d := n } else if c = 105 then { f with m := n % 65536 } else { f with m := n % 4294967296 }
def inB (c : UInt8) (n : Int) : Bool := decide (lowB c ≤ n ∧ n ≤ highB c)
def put (c : UInt8) (n : Int) : Option F → Option F
  | none => none
  | some f => if numB c then (if inB c n then some (setF f c n) else none) else some f
def ops : List Nat := (List.range 53).map (· + 1)
inductive PR where
  | name | text | bound | ok (k : Nat) (f : F)
def fin (k : Nat) : Option (List UInt8 × Option F) → PR
  | none => .text
  | some ([], some f) => .ok k f
  | some ([], none) => .bound
  | some (_ :: _, _) => .text
/-! ### names -/
/-! ### the document's answer's way -/
def pc (o : UInt8) : List UInt8 := if regB o then [36, o] else if o = 110 then [105] else if o = 109 then [105, 40, 36, 83, 41] else [o]
end Go.Proofs.YtflagpkmebdckaaGreatDoor.Fm
/-
  Rows of ops.
-/
namespace Go.Proofs.YtflagpkmebdckaaGreatDoor
open Go.RowKit Go.Maps
set_option linter.unusedVariables false
/-- rows of ops -/
def RowsI (w : World) (v : Value) (rs : List (List Opx)) : Prop :=
  ∃ ao cap, v = .slice ao rs.length cap ∧ rs.length ≤ cap ∧ (0 < rs.length → ∃ b off : Nat, ao = some ⟨b, off, none⟩ ∧ ∀ (i : Nat) (row : List Opx), rs[i]? = some row → ∃ u, w.cell? ⟨b, off + i, none⟩ = some u ∧ OpsIn w u row)
theorem RowsI.stays {w w' : World} {v : Value} {rs : List (List Opx)} (R : RowsI w v rs) (h : Below w.heap.size w w') : RowsI w' v rs := by
  obtain ⟨ao, cap, e, hc, hh⟩ := R
  refine ⟨ao, cap, e, hc, fun hp => ?_⟩
  obtain ⟨b, off, eb, hcell⟩ := hh hp
  refine ⟨b, off, eb, fun i row hi => ?_⟩
  obtain ⟨u, hu, hO⟩ := hcell i row hi
  exact ⟨u, (h.cell (p := ⟨b, off + i, none⟩) (World.block_lt_of_cell? _ _ hu)).trans hu, hO.stays h⟩
end Go.Proofs.YtflagpkmebdckaaGreatDoor
/-
  What an op comes to is words; a row's results in memory.
-/
namespace Go.Proofs.YtflagpkmebdckaaGreatDoor
open Go.RowKit Go.Maps
open Num
set_option linter.unusedVariables false
end Go.Proofs.YtflagpkmebdckaaGreatDoor
/-
  Functions of the document that the seat D has not: Signed, Word, ShiftOf, IsOf, Part.
-/
namespace Go.Proofs.YtflagpkmebdckaaGreatDoor.K
open Go.RowKit
open Num Tab
set_option linter.unusedVariables false
set_option maxHeartbeats 1000000 in
theorem signed_any (a : Int) (h0 : 0 ≤ a) (h1 : a < 4294967296) (w : World) :
    Calls Tryz.prog 153 #[.int .u32 a] w fun e w' => e = .returned (.int .i64 (sg a)) ∧ w' = w := by
  by_cases h : 2147483648 ≤ a
  · go_enter Tryz.func153, Tryz.ntmps153
    go_wp2
    go_ret
    exact ⟨ret_int (by unfold sg; rw [if_neg (by omega)]), rfl⟩
  · go_enter Tryz.func153, Tryz.ntmps153
    go_wp2
    go_ret
    exact ⟨ret_int (by unfold sg; rw [if_pos (by omega)]), rfl⟩
set_option maxHeartbeats 1000000 in
theorem word_any (n : Int) (h0 : -9223372036854775808 ≤ n) (h1 : n ≤ 9223372036854775807) (w : World) :
    Calls Tryz.prog 101 #[.int .i64 n] w fun e w' => e = .returned (.int .u32 (lo n)) ∧ w' = w := by
  have ht := tm n
  have he : Hid (n = 4294967296 * n.tdiv 4294967296 + n.tmod 4294967296) := ht.1
  obtain ⟨hx, ht1, ht2⟩ := ht
  clear hx
  by_cases hn : n.tmod 4294967296 < 0
  · go_enter Tryz.func101, Tryz.ntmps101
    go_wp2
    go_ret
    exact ⟨ret_int (by have := he.out; unfold lo; omega), rfl⟩
  · go_enter Tryz.func101, Tryz.ntmps101
    go_wp2
    go_ret
    exact ⟨ret_int (by have := he.out; unfold lo; omega), rfl⟩
set_option maxHeartbeats 2000000 in
theorem shiftOf_any (k a n : Int) (h0 : 0 ≤ a) (h1 : a < 4294967296) (g0 : 0 ≤ n) (w : World) :
    Calls Tryz.prog 85 #[.int .u8 k, .int .u32 a, .int .u32 n] w fun e w' => e = .returned (.int .u32 (shf k a n)) ∧ w' = w := by
  have ha := sg_bd h0 h1
  go_enter Tryz.func85, Tryz.ntmps85
  go_wp2
  go_loop [7, 8] (fun y i => ∃ j : Nat, (j : Int) ≤ n % 32 ∧ i = .int .u32 j ∧ y = .int .i64 (2 ^ j)) (fun _ i => 32 - (intOf i).toNat)
  case atStart => exact ⟨0, by simp; omega, rfl, rfl⟩
  case round =>
    obtain ⟨j, hj, rfl, rfl⟩ := hrel
    have hp := two_le (k := j) (by omega)
    by_cases hlt : (j : Int) < n % 32
    · go_wp2
      go_round
      case rel => exact ⟨j + 1, by omega, by go_num, by rw [Int.pow_succ]; go_num⟩
      case measure => simp [intOf]; omega
    · have hj' : j = (n % 32).toNat := by omega
      have hpw : Hid (pw n = 2 ^ j) := by rw [hj']; exact rfl
      have hd := p_div (k := j) (by omega)
      have hs := shl_of a (2 ^ j) hp.1 hd.1 hd.2
      obtain ⟨s0, s1, s2, s3, s4⟩ := hs
      have hs4 : Hid (a % (4294967296 / 2 ^ j) * 2 ^ j = lo (a * 2 ^ j)) := s4
      obtain ⟨hd1, hd2⟩ := hd
      clear s4 hj' hd1
      have e1 := ediv_bd (d := 2 ^ j) h0 hp.1
      by_cases k1 : k = 60
      · subst k1
        go_wp2_with (go_at_call 101; refine (word_any _ (by omega) (by omega) _).mono ?_; rintro e w' ⟨rfl, rfl⟩)
        go_ret
        exact ⟨ret_int (by rw [hs4.out, ← hpw.out]; unfold shf; rw [if_pos rfl]; exact lo_of (lo_bd _).1 (lo_bd _).2), rfl⟩
      by_cases k2 : k = 62
      · subst k2
        go_wp2_with (go_at_call 101; refine (word_any _ (by omega) (by omega) _).mono ?_; rintro e w' ⟨rfl, rfl⟩)
        go_ret
        exact ⟨ret_int (by rw [lo_of e1.1 (by omega), ← hpw.out]; unfold shf; rw [if_neg (by decide), if_pos rfl]), rfl⟩
      by_cases k3 : k = 126
      · subst k3
        have fin : shf 126 a n = lo (sg a / 2 ^ j) := by unfold shf; rw [if_neg (by decide), if_neg (by decide), if_pos rfl, hpw.out]
        have hfin : Hid (shf 126 a n = lo (sg a / 2 ^ j)) := fin
        clear fin
        by_cases hn : sg a < 0
        · obtain ⟨dn, de⟩ := down (sg a) (2 ^ j) hn ha.1 hp.1
          have hde : Hid (sg a / 2 ^ j = if (sg a).tmod (2 ^ j) = 0 then (sg a).tdiv (2 ^ j) else (sg a).tdiv (2 ^ j) - 1) := de
          clear de
          by_cases hr : (sg a).tmod (2 ^ j) = 0
          · go_wp2_with (first | (go_at_call 153; refine (signed_any _ (by omega) (by omega) _).mono ?_; rintro e w' ⟨rfl, rfl⟩) | (go_at_call 101; refine (word_any _ (by omega) (by omega) _).mono ?_; rintro e w' ⟨rfl, rfl⟩))
            go_ret
            exact ⟨ret_int (by rw [hfin.out, hde.out, if_pos hr]), rfl⟩
          · go_wp2_with (first | (go_at_call 153; refine (signed_any _ (by omega) (by omega) _).mono ?_; rintro e w' ⟨rfl, rfl⟩) | (go_at_call 101; refine (word_any _ (by omega) (by omega) _).mono ?_; rintro e w' ⟨rfl, rfl⟩))
            go_ret
            exact ⟨ret_int (by rw [hfin.out, hde.out, if_neg hr]), rfl⟩
        · have e2 := ediv_bd (d := 2 ^ j) (show 0 ≤ sg a by omega) hp.1
          go_wp2_with (first | (go_at_call 153; refine (signed_any _ (by omega) (by omega) _).mono ?_; rintro e w' ⟨rfl, rfl⟩) | (go_at_call 101; refine (word_any _ (by omega) (by omega) _).mono ?_; rintro e w' ⟨rfl, rfl⟩))
          go_ret
          exact ⟨ret_int (by rw [hfin.out]), rfl⟩
      have f1 : (k == 60) = false := by simpa using k1
      have f2 : (k == 62) = false := by simpa using k2
      have f3 : (k == 126) = false := by simpa using k3
      have e' : shf k a n = a := by unfold shf; rw [if_neg k1, if_neg k2, if_neg k3]
      have e : Hid (shf k a n = a) := e'
      clear e' k1 k2 k3
      go_wp2
      go_ret
      exact ⟨ret_int e.out.symm, rfl⟩
set_option maxHeartbeats 1000000 in
theorem isOf_any (l : List UInt8) (c : Int) (hl : l.length ≤ 10) (w : World) : Calls Tryz.prog 119 #[.string ⟨l.toArray⟩, .int .u8 c] w fun e w' => e = .returned (.bool (hasB l c)) ∧ w' = w := by
  have hz : (ByteArray.mk l.toArray).size = l.length := by simp [ByteArray.size]
  go_enter Tryz.func119, Tryz.ntmps119
  go_wp2
  go_loop [5] (fun i => ∃ k : Nat, k ≤ l.length ∧ i = .int .i64 k ∧ hasB (l.take k) c = false) (fun i => l.length - (intOf i).toNat)
  case atStart => exact ⟨0, Nat.zero_le _, rfl, rfl⟩
  case round =>
    obtain ⟨k, hk, rfl, hb⟩ := hrel
    have HB : Hid (hasB (l.take k) c = false) := hb
    clear hb
    by_cases hlt : k < l.length
    · have ht := hasB_take l c k hlt
      have HT : Hid (hasB (l.take (k + 1)) c = (hasB (l.take k) c || ((l[k].toNat : Int) == c))) := ht
      clear ht
      have hge : ∀ h, (ByteArray.mk l.toArray)[k]'h = l[k] := fun h => rfl
      by_cases he : ((l[k].toNat : Int) == c) = true
      · have hy : Hid (hasB l c = true) := hasB_no l c k hlt he
        go_wp2
        go_ret
        exact ⟨ret_bool hy.out.symm, rfl⟩
      · have he' : ((l[k].toNat : Int) == c) = false := by simpa using he
        clear he
        go_wp2
        go_round
        case rel => exact ⟨k + 1, by omega, by go_num, by rw [HT.out, HB.out, he']; rfl⟩
        case measure => simp [intOf]; omega
    · have e : Hid (hasB l c = false) := by rw [← HB.out, List.take_of_length_le (by omega)]; exact rfl
      go_wp2
      go_ret
      exact ⟨ret_bool e.out.symm, rfl⟩
set_option maxHeartbeats 1000000 in
theorem part_any (a up bits : Int) (h0 : 0 ≤ a) (h1 : a < 4294967296) (g0 : 0 ≤ up) (g1 : up < 32) (b0 : 0 ≤ bits) (b1 : bits < 32) (w : World) :
    Calls Tryz.prog 46 #[.int .u32 a, .int .i64 up, .int .i64 bits] w fun e w' => e = .returned (.int .i64 (a / pw up % pw bits)) ∧ w' = w := by
  have s1 := shf_bd (k := 62) (n := up) h0 h1
  have hp := pw_bd bits
  have he := (part_eq a up bits).1
  have hf : shf 60 1 bits = pw bits := by rw [(part_eq a up bits).2, Int.one_mul]; exact lo_of (by omega) (by omega)
  rw [← hf] at hp
  have HE : Hid (shf 62 a up = a / pw up ∧ shf 60 1 bits = pw bits) := ⟨he, hf⟩
  clear he hf
  have hz : ¬ shf 60 1 bits = 0 := by omega
  go_enter Tryz.func46, Tryz.ntmps46
  go_wp2_with (go_at_call 85; refine (shiftOf_any _ _ _ (by omega) (by omega) (by omega) _).mono ?_; rintro e w' ⟨rfl, rfl⟩)
  go_ret
  exact ⟨ret_int (by rw [HE.out.1, HE.out.2]), rfl⟩
end Go.Proofs.YtflagpkmebdckaaGreatDoor.K
