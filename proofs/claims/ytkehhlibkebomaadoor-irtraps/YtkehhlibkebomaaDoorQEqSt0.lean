/-
  A state, loaded whole; two that are one are equal.
-/
import Derived.Laws.StructEq
import Derived.Deep.MidRow
import Derived.ChangeKeysEq
import Derived.Test.YtkehhlibkebomaaDoorKPl1
namespace Go.Proofs.YtkehhlibkebomaaDoor
open Go.RowKit
set_option linter.unusedVariables false
def stL (S : St) : List Value := (List.range 43).map (stV S)
def stA (S : St) : Array Value := (stL S).toArray
theorem stA_get (S : St) {j : Nat} (h : j < 43) : (stA S)[j]? = some (stV S j) := by
  unfold stA stL; rw [List.getElem?_toArray, List.getElem?_map, List.getElem?_range h]; rfl
theorem load_st {w : World} {sb : Nat} {S : St} (A : StAt w sb S) : (loadVar 26 ⟨sb, 0, none⟩).run Tryd.prog w = .ok (.agg (stA S)) w :=
  run_loadVar_mid w sb 0 26 (stL S) _ (fun j v hv => by
    have hj : j < 43 := by have := (List.getElem?_eq_some_iff.1 hv).1; simpa [stL] using this
    have : (stL S)[j]? = some (stV S j) := by have := stA_get S hj; simpa [stA] using this
    rw [this] at hv
    rw [Nat.zero_add, A.c j hj]; exact hv) Tryd.underlying26 rfl (by show _ = some 43; kernel_rfl)
theorem part_one (t : TypeId) (ht : ∀ w, (isAgg t).run Tryd.prog w = .ok false w) (xs : Array Value) (off : Nat) (v : Value) (h : xs[off]? = some v) (w : World) : (part t xs off).run Tryd.prog w = .ok v w := by
  simp [part, ht, h, go_sem]
theorem agg23 (w : World) : (isAgg 23).run Tryd.prog w = .ok false w := by kernel_rfl
theorem agg4 (w : World) : (isAgg 4).run Tryd.prog w = .ok false w := by kernel_rfl
theorem agg3 (w : World) : (isAgg 3).run Tryd.prog w = .ok false w := by kernel_rfl
theorem items_eq (d : Nat) (xs : Array Value) (r : Nat → Int) (hx : ∀ i, i < 32 → xs[i]? = some (.int .u32 (r i))) (w : World) : ∀ is : List Nat, (∀ i ∈ is, i < 32) → (Op.eqItems (d + 1) 23 1 xs xs is).run Tryd.prog w = .ok true w
  | [], _ => by simp [Op.eqItems]
  | i :: is, h => by
    have hp := part_one 23 agg23 xs (i * 1) _ (by rw [Nat.mul_one]; exact hx i (h i (by simp))) w
    have ih := items_eq d xs r hx w is (fun j hj => h j (by simp [hj]))
    have he := run_equalIn_int (P := Tryd.prog) w d 23 .u32 .u32 (r i) (r i) Tryd.underlying23
    simp only [Op.eqItems, Sem.run_bind, hp, Result.andThen_ok, he]
    simpa using ih
theorem arr_eq (d : Nat) (xs : Array Value) (r : Nat → Int) (hx : ∀ i, i < 32 → xs[i]? = some (.int .u32 (r i))) (w : World) : (Op.equalIn (d + 2) 24 (.agg xs) (.agg xs)).run Tryd.prog w = .ok true w := by
  have hc : Tryd.prog.cellsOf 23 = 1 := by kernel_rfl
  obtain ⟨i23, hi⟩ : ∃ i, Tryd.prog.info? 23 = some i := by
    cases h : Tryd.prog.info? 23 with
    | some i => exact ⟨i, rfl⟩
    | none =>
      have : (Tryd.prog.info? 23).isSome = true := by kernel_rfl
      rw [h] at this; cases this
  rw [run_equalIn_array w (d + 1) xs xs Tryd.underlying24 hi, hc]
  exact items_eq d xs r hx w _ (fun i hi => List.mem_range.1 hi)
/-- a field of two that are one -/
def FieldEq (xs : Array Value) (t off : Nat) (w : World) : Prop := ∃ v, (part t xs off).run Tryd.prog w = .ok v w ∧ (Op.equalIn 9999 t v v).run Tryd.prog w = .ok true w
theorem fields_eq (xs : Array Value) (w : World) : ∀ fs : List Field, (∀ f ∈ fs, FieldEq xs f.type f.offset w) → (Op.eqFields 9999 xs xs fs).run Tryd.prog w = .ok true w
  | [], _ => by simp [Op.eqFields]
  | f :: fs, h => by
    obtain ⟨v, hp, he⟩ := h f (by simp)
    have ih := fields_eq xs w fs (fun g hg => h g (by simp [hg]))
    simp only [Op.eqFields]
    split
    · simp only [Sem.run_bind, hp, Result.andThen_ok, he]
      simpa using ih
    · exact ih
theorem fields32 : (Tryd.prog.fieldsOf 26).toList.map (fun f => (f.type, f.offset)) = [(24, 0), (23, 32), (23, 33), (23, 34), (23, 35), (4, 36), (23, 37), (23, 38), (23, 39), (23, 40), (23, 41), (3, 42)] := by kernel_rfl
theorem word_eq (S : St) (j : Nat) (hj : j < 43) (n : Int) (h : stV S j = .int .u32 n) (w : World) : FieldEq (stA S) 23 j w :=
  ⟨_, part_one 23 agg23 (stA S) j _ (stA_get S hj) w, by rw [h]; have := run_equalIn_int (P := Tryd.prog) w 9998 23 .u32 .u32 n n Tryd.underlying23; rw [this]; simp⟩
theorem eq_st (S : St) (w : World) : (binOp .eql 26 (.agg (stA S)) (.agg (stA S))).run Tryd.prog w = .ok (.bool true) w := by
  rw [run_eql_struct, run_equalIn_agg w 9999 26 _ _ (by kernel_rfl) (by kernel_rfl), fields_eq (stA S) w _ ?_]
  · rfl
  intro f hf
  have hm : (f.type, f.offset) ∈ [(24, 0), (23, 32), (23, 33), (23, 34), (23, 35), (4, 36), (23, 37), (23, 38), (23, 39), (23, 40), (23, 41), (3, 42)] := by rw [← fields32]; exact List.mem_map.2 ⟨f, hf, rfl⟩
  generalize f.type = t at hm
  generalize f.offset = o at hm
  simp only [List.mem_cons, Prod.mk.injEq, List.not_mem_nil, or_false] at hm
  rcases hm with ⟨rfl, rfl⟩ | ⟨rfl, rfl⟩ | ⟨rfl, rfl⟩ | ⟨rfl, rfl⟩ | ⟨rfl, rfl⟩ | ⟨rfl, rfl⟩ | ⟨rfl, rfl⟩ | ⟨rfl, rfl⟩ | ⟨rfl, rfl⟩ | ⟨rfl, rfl⟩ | ⟨rfl, rfl⟩ | ⟨rfl, rfl⟩
  · refine ⟨.agg ((stA S).extract 0 32), by simp [part, go_sem], arr_eq 9997 _ S.r (fun i hi => ?_) w⟩
    rw [Array.getElem?_extract, if_pos (by simp [stA, stL]; omega), Nat.zero_add, stA_get S (by omega)]
    simp [stV, hi]
  · exact word_eq S 32 (by omega) S.hi rfl w
  · exact word_eq S 33 (by omega) S.lo rfl w
  · exact word_eq S 34 (by omega) S.pc rfl w
  · exact word_eq S 35 (by omega) S.nx rfl w
  · exact ⟨_, part_one 4 agg4 (stA S) 36 _ (stA_get S (by omega)) w, by have := run_equalIn_bool' (P := Tryd.prog) w 9998 4 S.sl S.sl Tryd.underlying4; rw [show stV S 36 = .bool S.sl from rfl, this]; simp⟩
  · exact word_eq S 37 (by omega) S.st rfl w
  · exact word_eq S 38 (by omega) S.ca rfl w
  · exact word_eq S 39 (by omega) S.ep rfl w
  · exact word_eq S 40 (by omega) S.bd rfl w
  · exact word_eq S 41 (by omega) S.cm rfl w
  · exact ⟨_, part_one 3 agg3 (stA S) 42 _ (stA_get S (by omega)) w, by have := run_equalIn_int (P := Tryd.prog) w 9998 3 .i64 .i64 S.ct S.ct Tryd.underlying3; rw [show stV S 42 = .int .i64 S.ct from rfl, this]; simp⟩
theorem exec_load {ρ : Operand → Value} {o : Oper} {x : Operand} {sb : Nat} {v : Value} (ho : o.op = .load 26 x) (hx : ρ x = .pointer (some ⟨sb, 0, none⟩)) (W : World) (hl : (loadVar 26 ⟨sb, 0, none⟩).run Tryd.prog W = .ok v W) : (execOp ρ o).run Tryd.prog W = .ok (.value v) W := by
  have hs : (Instr.sureAddr (.pointer (some ⟨sb, 0, none⟩))).run Tryd.prog W = .ok ⟨sb, 0, none⟩ W := by simp [Instr.sureAddr]
  have h : (Instr.loadAt 26 (.pointer (some ⟨sb, 0, none⟩))).run Tryd.prog W = .ok v W := by unfold Instr.loadAt; rw [Sem.run_bind, hs, Result.andThen_ok]; exact hl
  unfold execOp
  simp only [ho, hx, Sem.run_bind, h, Result.andThen_ok]
  rfl
theorem guard32 : Tryd.prog.eqGuardType Tryd.prog.depth 26 = false := by kernel_rfl
theorem exec_eq {ρ : Operand → Value} {o : Oper} {x y : Operand} {ty : TypeId} {SA : Array Value} (ho : o.op = .binOp .eql 26 x y ty) (hx : ρ x = .agg SA) (hy : ρ y = .agg SA) (W : World) (heq : (binOp .eql 26 (.agg SA) (.agg SA)).run Tryd.prog W = .ok (.bool true) W) : (execOp ρ o).run Tryd.prog W = .ok (.value (.bool true)) W := by
  have hg := run_eqGuard_agg (P := Tryd.prog) W .eql 26 x y SA SA guard32
  unfold execOp
  simp only [ho, hx, hy, Sem.run_bind, hg, Result.andThen_ok, heq]
  first | rfl | simp [go_sem]
theorem stA_congr {S S' : St} (h : ∀ j, j < 43 → stV S j = stV S' j) : stA S = stA S' := by
  unfold stA stL; congr 1; exact List.map_congr_left (fun j hj => h j (List.mem_range.1 hj))
def zS : St := ⟨fun _ => 0, 0, 0, 0, 0, false, 0, 0, 0, 0, 0, 0⟩
theorem zeroSt (w : World) : (zeroValue 26).run Tryd.prog w = .ok (.agg (stA zS)) w := by kernel_rfl
theorem stA_size (S : St) : (stA S).size = 43 := by simp [stA, stL]
theorem stA_one (S : St) : (stA S).all (·.oneCell') = true := by
  rw [Array.all_eq_true_iff_forall_mem]
  intro x hx
  simp only [stA, stL, List.mem_toArray, List.mem_map] at hx
  obtain ⟨i, _, rfl⟩ := hx
  unfold stV
  (repeat' split) <;> rfl
section
variable {ops : Array Oper} {rest : List Oper} {o : Oper} {a : Act} {w : World} {Q : Exit → Act → World → Prop}
theorem wpList_allocSt (hg : o.guard = none) (hop : o.op = Op.alloc 26)
    (h : wpList Tryd.prog ops Q rest (a.put o.dst (.pointer (some ⟨w.heap.size, 0, none⟩))) (w.alloc (.cells (stA zS) 26))) : wpList Tryd.prog ops Q (o :: rest) a w := by
  refine wpList_plain hg fun K hK => ?_
  unfold Oper.wp
  have e : (execOp a.eval o).run Tryd.prog w = .ok (.value (.pointer (some ⟨w.heap.size, 0, none⟩))) (w.alloc (.cells (stA zS) 26)) := by
    unfold execOp; rw [hop]
    simp only [Instr.alloc, newVar, newRow, Sem.run_bind, zeroSt, Result.andThen_ok]
    rfl
  rw [e, Oper.upon_value]
  exact hK _ _ h
theorem wpList_storeSt (hgd : o.guard = none) (x y : Operand) (ho : o.op = .store 26 x y)
    (old cells : Array Value) (hx : a.eval x = .pointer (some ⟨w.heap.size, 0, none⟩)) (hy : a.eval y = .agg cells) (ho' : old.size = 43) (hs : cells.size = 43) (h1 : cells.all (·.oneCell') = true)
    (h : wpList Tryd.prog ops Q rest (a.put o.dst undef) (w.alloc (.cells cells 26))) : wpList Tryd.prog ops Q (o :: rest) a (w.alloc (.cells old 26)) := by
  refine wpList_store_row hgd 26 x y ho w.heap.size cells hx hy 26 old (heap_alloc_new w _) (by rw [hs]; kernel_rfl) (by omega) h1 ?_
  rw [setRow_new]; exact h
theorem wpList_storeRow (hgd : o.guard = none) (x y : Operand) (ho : o.op = .store 26 x y) (b : Nat)
    (old cells : Array Value) (hx : a.eval x = .pointer (some ⟨b, 0, none⟩)) (hy : a.eval y = .agg cells) (hb : w.heap[b]? = some (.cells old 26 (0, 0))) (ho' : old.size = 43) (hs : cells.size = 43) (h1 : cells.all (·.oneCell') = true)
    (h : wpList Tryd.prog ops Q rest (a.put o.dst undef) (w.setRow b cells)) : wpList Tryd.prog ops Q (o :: rest) a w :=
  wpList_store_row hgd 26 x y ho b cells hx hy 26 old hb (by rw [hs]; kernel_rfl) (by omega) h1 h
theorem wpList_loadSt (hg : o.guard = none) (x : Operand) (hop : o.op = .load 26 x) (sb : Nat) (L : Array Value) (hx : a.eval x = .pointer (some ⟨sb, 0, none⟩)) (hl : (loadVar 26 ⟨sb, 0, none⟩).run Tryd.prog w = .ok (.agg L) w)
    (h : wpList Tryd.prog ops Q rest (a.put o.dst (.agg L)) w) : wpList Tryd.prog ops Q (o :: rest) a w := by
  refine wpList_plain hg fun K hK => ?_
  unfold Oper.wp
  rw [exec_load hop hx w hl, Oper.upon_value]
  exact hK _ _ h
end
end Go.Proofs.YtkehhlibkebomaaDoor
