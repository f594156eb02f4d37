/-
  ParseOf's ends: what it answers where a text is none.
-/
import Derived.Test.YtccnliihdhnckaaGreatDoorPOs
namespace Go.Proofs.YtccnliihdhnckaaGreatDoor
open Go.RowKit Go.Shelf Go.Joins
open Num Tab Fm Txt
theorem err_ret {R : Ending → World → Prop} {a : Act} {X : World} {B : Nat} {c : Int} (h2 : a.tmps.getD 2 undef = .pointer (some ⟨B, 0, none⟩)) (h3 : a.tmps.getD 3 undef = .int .i64 c) (hd : a.defers = []) (z : ZAt B X)
    (hR : R (.returned (.tuple #[ins 0 0 0 0 0, .int .i64 c])) X) : bodyPost Tryz.prog Tryz.f13 R Exit.ret a X := by
  obtain ⟨z0, z1, z2, z3, z4, zf⟩ := z
  refine bodyPost_ret (v := .tuple #[ins 0 0 0 0 0, .int .i64 c]) ?_ hd hR
  simp only [Array.getD_eq_getD_getElem?] at h2 h3
  simp [results, Tryz.results13, go_sem, h2, h3, z0, z1, z2, z3, z4]
/-- an instruction of nothing, made -/
theorem wpList_build24 {ops : Array Oper} {rest : List Oper} {o : Oper} {a : Act} {w : World} {Q : Exit → Act → World → Prop} (hg : o.guard = none) (ho : o.op = .build 24 #[])
    (h : wpList Tryz.prog ops Q rest (a.put o.dst (ins 0 0 0 0 0)) w) : wpList Tryz.prog ops Q (o :: rest) a w := by
  refine wpList_plain hg fun K hK => ?_
  unfold Oper.wp
  have e : (execOp a.eval o).run Tryz.prog w = .ok (.value (ins 0 0 0 0 0)) w := by
    unfold execOp; rw [ho]; simp only; kernel_rfl
  rw [e, Oper.upon_value]
  exact hK _ _ h
/-- .. laid over one of nothing -/
theorem wpList_store24 {ops : Array Oper} {rest : List Oper} {o : Oper} {a : Act} {w : World} {Q : Exit → Act → World → Prop} (hg : o.guard = none) (x y : Operand) (ho : o.op = .store 24 x y) (B : Nat) (hx : a.eval x = .pointer (some ⟨B, 0, none⟩)) (hy : a.eval y = ins 0 0 0 0 0) (z : ZAt B w)
    (h : wpList Tryz.prog ops Q rest (a.put o.dst undef) (((((w.setCell ⟨B, 0, none⟩ (.int .i64 0)).setCell ⟨B, 1, none⟩ (.int .i64 0)).setCell ⟨B, 2, none⟩ (.int .i64 0)).setCell ⟨B, 3, none⟩ (.int .i64 0)).setCell ⟨B, 4, none⟩ (.int .u32 0))) : wpList Tryz.prog ops Q (o :: rest) a w := by
  obtain ⟨z0, z1, z2, z3, z4, zf⟩ := z
  refine wpList_plain hg fun K hK => ?_
  unfold Oper.wp
  have hst : (storeVar 24 ⟨B, 0, none⟩ (ins 0 0 0 0 0)).run Tryz.prog w = .ok () (((((w.setCell ⟨B, 0, none⟩ (.int .i64 0)).setCell ⟨B, 1, none⟩ (.int .i64 0)).setCell ⟨B, 2, none⟩ (.int .i64 0)).setCell ⟨B, 3, none⟩ (.int .i64 0)).setCell ⟨B, 4, none⟩ (.int .u32 0)) := by
    simp [storeVar, go_sem, z0, z1, z2, z3, z4, zf]
  unfold execOp
  simp only [ho, hx, hy, Instr.storeAt, Instr.sureAddr, Sem.run_bind, Sem.run_pure, Result.andThen_ok, hst]
  exact hK _ _ h
/-- the last of such an end: its number, and back -/
theorem wpList_err {P : Program} {ops : Array Oper} {o : Oper} {a : Act} {w : World} {K : Act → World → Prop} {Q1 : Exit → Act → World → Prop} (v : Value) (hg : o.guard = none) (ho : o.op = .assign (.const v)) (hK : ∀ a w, Code.wp P Code.ret Q1 a w → K a w) (h : Q1 .ret (a.put o.dst v) w) : wpList P ops (Exit.then K Q1) [o] a w := by
  refine wpList_plain hg fun K' hK' => ?_
  unfold Oper.wp
  have e : (execOp a.eval o).run P w = .ok (.value v) w := by unfold execOp; rw [ho]; rfl
  rw [e, Oper.upon_value]
  refine hK' _ _ ?_
  exact hK _ _ (wp_ret h)
end Go.Proofs.YtccnliihdhnckaaGreatDoor
