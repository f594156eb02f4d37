/-
  The walk of CpuTakes.
-/
import Derived.Test.YtckcbnfobjmhpaaDoorQWaits
import Derived.Test.YtckcbnfobjmhpaaDoorQEqSt0
namespace Go.Proofs.YtckcbnfobjmhpaaDoor
open Num
set_option linter.unusedVariables false
theorem set_pc (S : St) (n : Nat) (v : Int) : (S.set n v).nx = S.nx := by unfold St.set; split <;> rfl
/-- an instruction that is done goes on; one that is not leaves all but Bad as it was -/
structure Fine (S : St) (b : Bs) (x : Int × St × Bs) : Prop where
  on : x.1 = -1 → x.2.1.pc = S.nx
  ex : x.1 ≠ -1 → (∃ y, u32 y ∧ x.2.1 = { S with bd := y }) ∧ x.2.2 = b
theorem fine_same {S : St} (o : S.ok) (b : Bs) {e : Int} (he : e ≠ -1) : Fine S b (e, S, b) := ⟨fun h => absurd h he, fun _ => ⟨⟨S.bd, o.bd, rfl⟩, rfl⟩⟩
theorem insP_fine {S : St} (o : S.ok) (hst : bits .and .u32 S.st 2 = 0) (b : Bs) (k s t d : Nat) (m : Int) : Fine S b (insP S b k s t d m) := by
  unfold insP
  split
  · unfold branchP
    split
    · exact fine_same o b (by omega)
    · exact ⟨fun _ => rfl, fun h => absurd rfl h⟩
  split
  · split
    · exact ⟨fun h => absurd h (by show ¬ (4 : Int) = -1; omega), fun _ => ⟨⟨_, lo_bd _, rfl⟩, rfl⟩⟩
    · exact ⟨fun _ => set_pc _ _ _, fun h => absurd rfl h⟩
  split
  · split
    · exact ⟨fun h => absurd h (by show ¬ (5 : Int) = -1; omega), fun _ => ⟨⟨_, lo_bd _, rfl⟩, rfl⟩⟩
    · exact ⟨fun _ => rfl, fun h => absurd rfl h⟩
  split
  · unfold trapP
    split
    · exact fine_same o b (by omega)
    split
    · exact fine_same o b (by omega)
    split
    · unfold fromP
      (repeat' split) <;> first | exact ⟨fun _ => set_pc _ _ _, fun h => absurd rfl h⟩ | exact fine_same o b (by omega)
    split
    · unfold toP
      (repeat' split) <;> first | exact ⟨fun _ => rfl, fun h => absurd rfl h⟩ | exact fine_same o b (by omega)
    split
    · unfold backP
      rw [if_pos (Or.inl hst)]
      exact fine_same o b (by omega)
    · exact fine_same o b (by omega)
  · unfold sumP
    split
    · exact ⟨fun _ => rfl, fun h => absurd rfl h⟩
    split
    · refine ⟨fun _ => ?_, fun h => absurd rfl h⟩
      dsimp only
      split <;> rfl
    split
    · exact ⟨fun _ => rfl, fun h => absurd rfl h⟩
    split
    · exact ⟨fun _ => rfl, fun h => absurd rfl h⟩
    split
    · exact fine_same o b (by omega)
    · exact ⟨fun _ => set_pc _ _ _, fun h => absurd rfl h⟩
theorem doP_fine {S : St} (o : S.ok) (hst : bits .and .u32 S.st 2 = 0) (b : Bs) : Fine S b (doC S b) := by
  unfold doC
  split
  · exact fine_same o b (by omega)
  split
  · exact ⟨fun h => absurd h (by show ¬ (4 : Int) = -1; omega), fun _ => ⟨⟨_, o.pc, rfl⟩, rfl⟩⟩
  · exact insP_fine o hst b _ _ _ _ _
theorem cause_nat : ∀ n : Nat, n < 32 → bits .or .u32 (bits .andNot .u32 0 124) (sh4 n) = 4 * (n : Int) ∧ bits .or .u32 (bits .andNot .u32 2147483648 124) (sh4 n) = 2147483648 + 4 * (n : Int) := by decide +kernel
theorem cause_eq {e : Int} (h0 : 0 ≤ e) (h1 : e < 32) : bits .or .u32 (bits .andNot .u32 0 124) (sh4 e) = 4 * e ∧ bits .or .u32 (bits .andNot .u32 2147483648 124) (sh4 e) = 2147483648 + 4 * e := by
  have := cause_nat e.toNat (by omega)
  rwa [Int.toNat_of_nonneg h0] at this
/-- a state that CpuTakes begins with -/
def Tk (S : St) (slot : Bool) : St := { S with r := fun i => if i = 0 then 0 else S.r i, pc := 64, nx := 68, sl := slot, st := 0 }
theorem Tk_ok {S : St} (o : S.ok) (slot : Bool) : (Tk S slot).ok :=
  ⟨fun i => by show u32 (if i = 0 then 0 else S.r i); split; exact ⟨by omega, by omega⟩; exact o.r i, o.hi, o.lo, ⟨by show (0:Int) ≤ 64; omega, by show (64:Int) < _; omega⟩, ⟨by show (0:Int) ≤ 68; omega, by show (68:Int) < _; omega⟩, ⟨by show (0:Int) ≤ 0; omega, by show (0:Int) < _; omega⟩, o.ca, o.ep, o.bd, o.cm, o.c0, o.c1⟩
def atI (slot : Bool) : Int := if slot = true then 60 else 64
def caI (slot : Bool) (e : Int) : Int := if slot = true then 2147483648 + 4 * e else 4 * e
/-- behind the first step -/
structure Took (S : St) (slot : Bool) (b : Bs) (x : Int × St × Bs) : Prop where
  on : x.1 = -1 → x.2.1.pc = 68
  ex : x.1 ≠ -1 → 0 ≤ x.1 ∧ x.1 < 32 ∧ x.2.1.ep = atI slot ∧ x.2.1.ca = caI slot x.1 ∧ x.2.1.st = 2 ∧ x.2.1.pc = 384 ∧ x.2.1.sl = false ∧ x.2.1.r = (Tk S slot).r ∧ x.2.1.hi = S.hi ∧ x.2.1.lo = S.lo ∧ x.2.2 = b
  ct : x.2.1.ct = S.ct + 1
theorem took {S : St} (o : S.ok) (slot : Bool) (b : Bs) : Took S slot b (stepP (Tk S slot) b) := by
  have ok := Tk_ok o slot
  have hst : bits .and .u32 (Tk S slot).st 2 = 0 := by show bits .and .u32 0 2 = 0; decide
  have hF := doP_fine ok hst b
  have hP := doP_plain ok b
  refine ⟨fun h => ?_, fun h => ?_, stepP_ct ok b⟩
  · have h' : (doC (Tk S slot) b).1 = -1 := h
    show (if (doC (Tk S slot) b).1 = -1 then (doC (Tk S slot) b).2.1 else _).pc = 68
    rw [if_pos h']
    exact hF.on h'
  · have h' : (doC (Tk S slot) b).1 ≠ -1 := h
    obtain ⟨⟨y, hy, e1⟩, e2⟩ := hF.ex h'
    have hc := hP.code.resolve_left h'
    have hce := cause_eq hc.1 hc.2
    unfold stepP
    rw [e1, e2, if_neg h']
    generalize (doC (Tk S slot) b).1 = e at *
    refine ⟨hc.1, hc.2, ?_⟩
    cases slot with
    | true =>
      have hx : exc1 { Tk S true with bd := y } = { { Tk S true with bd := y } with ep := Num.lo (64 - 4), ca := 2147483648 } := by
        unfold exc1
        rw [if_pos (by show bits .and .u32 0 2 = 0; decide), if_pos (by rfl)]
        rfl
      unfold excP
      rw [hx]
      exact ⟨by show Num.lo (64 - 4) = 60; decide, hce.2, by show bits .or .u32 0 2 = 2; decide, rfl, rfl, rfl, rfl, rfl, rfl⟩
    | false =>
      have hx : exc1 { Tk S false with bd := y } = { { Tk S false with bd := y } with ep := 64, ca := 0 } := by
        unfold exc1
        rw [if_pos (by show bits .and .u32 0 2 = 0; decide), if_neg (by show ¬ false = true; decide)]
        rfl
      unfold excP
      rw [hx]
      exact ⟨rfl, hce.1, by show bits .or .u32 0 2 = 2; decide, rfl, rfl, rfl, rfl, rfl, rfl⟩
/-- eret, at Vector -/
theorem eret_do {S : St} {b : Bs} (h1 : S.pc = 384) (h2 : S.st = 2) (h3 : S.sl = false) (hm : ld b.m 384 4 false = 1107296280) : doC S b = (-1, { S.jump S.ep with st := 0 }, b) := by
  have hi : intB S = false := by
    unfold intB
    rw [h2]
    have : decide (bits .and .u32 2 3 = 1) = false := by decide
    rw [this, Bool.and_false]
  unfold doC
  rw [if_neg (by simp [hi]), h1, if_neg (by decide), hm]
  dsimp only
  rw [show decK 1107296280 = 45 by decide +kernel]
  unfold insP
  rw [if_neg (by decide), if_neg (by decide), if_neg (by decide), if_pos (by decide)]
  have hb : backP S = (-1, { S.jump S.ep with st := 0 }) := by
    unfold backP
    rw [h2, h3, if_neg (by decide)]
    rfl
  have ht : trapP S 45 (Tab.xt (Tab.sh 45) 1107296280).toNat (Tab.xd (Tab.sh 45) 1107296280).toNat = backP S := by
    unfold trapP
    rw [if_neg (by decide), if_neg (by decide), if_neg (by decide), if_neg (by decide), if_pos (by rfl)]
  rw [ht, hb]
theorem eret_step {S : St} {b : Bs} (h1 : S.pc = 384) (h2 : S.st = 2) (h3 : S.sl = false) (hm : ld b.m 384 4 false = 1107296280) : stepP S b = (-1, { { S.jump S.ep with st := 0 } with ct := S.ct + 1 }, b) := by
  unfold stepP
  rw [eret_do h1 h2 h3 hm]
  rfl
/-- memory, with a word at 64 and eret at Vector -/
def mT (v : Int) : Nat → Int := upd (upd (mw []) 64 4 v) 384 4 1107296280
theorem mT_ld (v : Int) : ld (mT v) 384 4 false = 1107296280 := by
  unfold mT
  rw [ld_upd _ _ _ _ (by decide)]
  decide
end Go.Proofs.YtckcbnfobjmhpaaDoor
namespace Go.Proofs.YtckcbnfobjmhpaaDoor
open Go.RowKit Go.Maps
open Num
set_option linter.unusedVariables false
theorem BusIs.rebase {w : World} {base bb rb bp bw bh N : Nat} {m : Nat → Int} {wt ht : Int → Bool} {lamp : Int} (B : BusIs w base bb rb bp bw bh N m wt ht [] lamp [] (.slice none 0 0) (.slice none 0 0)) : BusIs w w.heap.size bb rb bp bw bh N m wt ht [] lamp [] (.slice none 0 0) (.slice none 0 0) :=
  ⟨B.c0, B.c1, B.c2, B.c3, B.fz, World.ownsRow_nil _ _ _ _, World.ownsRow_nil _ _ _ _, B.R, by have := B.lb; have := B.bs; omega, by have := B.ls; have := B.bs; omega, by have := B.lp; have := B.bs; omega, by have := B.lw; have := B.bs; omega, by have := B.lh; have := B.bs; omega, B.ns, B.np, B.nw, B.nh, Nat.le_refl _⟩
theorem st_alloc (S : St) (w : World) : StAt (w.alloc (.cells (stA S) 32)) w.heap.size S :=
  ⟨fun j hj => by simpa using stA_get S hj, fun j => by simp⟩
theorem zero32 (w : World) : (zeroValue 32).run Tryd.prog w = .ok (.agg (stA zS)) w := by kernel_rfl
section
variable {ops : Array Oper} {rest : List Oper} {o : Oper} {a : Act} {w : World} {Q : Exit → Act → World → Prop}
theorem wpList_alloc32 (hg : o.guard = none) (hop : o.op = Op.alloc 32)
    (h : wpList Tryd.prog ops Q rest (a.put o.dst (.pointer (some ⟨w.heap.size, 0, none⟩))) (w.alloc (.cells (stA zS) 32))) : wpList Tryd.prog ops Q (o :: rest) a w := by
  refine wpList_plain hg fun K hK => ?_
  unfold Oper.wp
  have e : (execOp a.eval o).run Tryd.prog w = .ok (.value (.pointer (some ⟨w.heap.size, 0, none⟩))) (w.alloc (.cells (stA zS) 32)) := by
    unfold execOp; rw [hop]
    simp only [Instr.alloc, newVar, newRow, Sem.run_bind, zero32, Result.andThen_ok]
    rfl
  rw [e, Oper.upon_value]
  exact hK _ _ h
theorem wpList_store32 (hgd : o.guard = none) (x y : Operand) (ho : o.op = .store 32 x y)
    (old cells : Array Value) (hx : a.eval x = .pointer (some ⟨w.heap.size, 0, none⟩)) (hy : a.eval y = .agg cells) (ho' : old.size = 43) (hs : cells.size = 43) (h1 : cells.all (·.oneCell') = true)
    (h : wpList Tryd.prog ops Q rest (a.put o.dst undef) (w.alloc (.cells cells 32))) : wpList Tryd.prog ops Q (o :: rest) a (w.alloc (.cells old 32)) := by
  refine wpList_store_row hgd 32 x y ho w.heap.size cells hx hy 32 old (heap_alloc_new w _) (by rw [hs]; kernel_rfl) (by omega) h1 ?_
  rw [setRow_new]; exact h
theorem exec_loadT {ρ : Operand → Value} {x : Operand} {t : TypeId} {sb : Nat} {v : Value} (ho : o.op = .load t x) (hx : ρ x = .pointer (some ⟨sb, 0, none⟩)) (W : World) (hl : (loadVar t ⟨sb, 0, none⟩).run Tryd.prog W = .ok v W) : (execOp ρ o).run Tryd.prog W = .ok (.value v) W := by
  have hs : (Instr.sureAddr (.pointer (some ⟨sb, 0, none⟩))).run Tryd.prog W = .ok ⟨sb, 0, none⟩ W := by simp [Instr.sureAddr]
  have h : (Instr.loadAt t (.pointer (some ⟨sb, 0, none⟩))).run Tryd.prog W = .ok v W := by unfold Instr.loadAt; rw [Sem.run_bind, hs, Result.andThen_ok]; exact hl
  unfold execOp
  simp only [ho, hx, Sem.run_bind, h, Result.andThen_ok]
  rfl
theorem wpList_loadT (hg : o.guard = none) (t : TypeId) (x : Operand) (hop : o.op = .load t x) (sb : Nat) (L : Array Value) (hx : a.eval x = .pointer (some ⟨sb, 0, none⟩)) (hl : (loadVar t ⟨sb, 0, none⟩).run Tryd.prog w = .ok (.agg L) w)
    (h : wpList Tryd.prog ops Q rest (a.put o.dst (.agg L)) w) : wpList Tryd.prog ops Q (o :: rest) a w := by
  refine wpList_plain hg fun K hK => ?_
  unfold Oper.wp
  rw [exec_loadT hop hx w hl, Oper.upon_value]
  exact hK _ _ h
theorem guard30 : Tryd.prog.eqGuardType Tryd.prog.depth 30 = false := by kernel_rfl
theorem wpList_neq30 (hg : o.guard = none) (x y : Operand) (ty : TypeId) (hop : o.op = .binOp .neq 30 x y ty) (L : Array Value) (hx : a.eval x = .agg L) (hy : a.eval y = .agg L) (hn : (binOp .neq 30 (.agg L) (.agg L)).run Tryd.prog w = .ok (.bool false) w)
    (h : wpList Tryd.prog ops Q rest (a.put o.dst (.bool false)) w) : wpList Tryd.prog ops Q (o :: rest) a w := by
  refine wpList_plain hg fun K hK => ?_
  unfold Oper.wp
  have e : (execOp a.eval o).run Tryd.prog w = .ok (.value (.bool false)) w := by
    have hgd := run_eqGuard_agg (P := Tryd.prog) w .neq 30 x y L L guard30
    unfold execOp
    simp only [hop, hx, hy, Sem.run_bind, hgd, Result.andThen_ok, hn]
    rfl
  rw [e, Oper.upon_value]
  exact hK _ _ h
end
def rgA (r : Nat → Int) : Array Value := ((List.range 32).map fun i => .int .u32 (r i)).toArray
theorem load_rg {w : World} {sb : Nat} {S : St} (A : StAt w sb S) : (loadVar 30 ⟨sb, 0, none⟩).run Tryd.prog w = .ok (.agg (rgA S.r)) w :=
  run_loadVar_mid w sb 0 30 ((List.range 32).map fun i => .int .u32 (S.r i)) _ (fun j v hv => by
    have hj : j < 32 := by have := (List.getElem?_eq_some_iff.1 hv).1; simpa using this
    rw [List.getElem?_map, List.getElem?_range hj] at hv
    rw [Nat.zero_add, A.reg hj]; exact hv) Tryd.underlying30 rfl (by show _ = some 32; kernel_rfl)
theorem neq_rg (r : Nat → Int) (w : World) : (binOp .neq 30 (.agg (rgA r)) (.agg (rgA r))).run Tryd.prog w = .ok (.bool false) w := by
  rw [run_neq_struct, arr_eq 9998 (rgA r) r (fun i hi => by unfold rgA; rw [List.getElem?_toArray, List.getElem?_map, List.getElem?_range hi]; rfl) w]
  rfl
set_option maxRecDepth 100000 in
set_option maxHeartbeats 16000000 in
theorem takes_any (ps pa pf pk pn : Addr) {w : World} (E : Er ps pa pf w) (T : K.Tb pk pn w) (S : St) (ok : 0 ≤ S.ct → S.ct ≤ 1099511627776 → S.ok) (h0 : -9223372036854775808 ≤ S.ct) (h1 : S.ct ≤ 9223372036854775807) (v : Int) (v0 : 0 ≤ v) (v1 : v < 4294967296) (slot : Bool) :
    Calls Tryd.prog 4 #[.agg (stA S), .int .u32 v, .bool slot] w fun e w' => e = .returned (.bool true) ∧ Below w.heap.size w w' := by
  have A0 := st_alloc S w
  have hal : Below w.heap.size w (w.alloc (.cells (stA S) 32)) := (Below.refl _ _).alloc (Nat.le_refl _) _
  have hst := stepped_any ps pa pf pk pn (E.stays hal) (T.stays hal (Nat.le_refl _))
  have EH : Hid (Er ps pa pf w) := E
  have TH : Hid (K.Tb pk pn w) := T
  have hsb : w.heap.size < (w.alloc (.cells (stA S) 32)).heap.size := by simp
  clear E T
  generalize hSA : stA S = SA at *
  clear hSA
  go_enter Tryd.func4, Tryd.ntmps4
  go_wp2_with fail
  generalize w.alloc (.cells SA 32) = wz at *
  refine hst.mono ?_
  rintro e w1 ⟨rfl, b1⟩
  clear hst
  have A1 := A0.stays b1
  have hb1 : Below w.heap.size w w1 := hal.trans (b1.mono hal.size)
  have q42 := A1.told.2.2.2.2.2.2.2.2.2.2
  by_cases t1 : S.ct < 0
  · go_wp2
    go_ret
    exact ⟨rfl, hb1⟩
  by_cases t2 : 1099511627776 < S.ct
  · go_wp2
    go_ret
    exact ⟨rfl, hb1⟩
  have u1 : 0 ≤ S.ct := by omega
  have u2 : S.ct ≤ 1099511627776 := by omega
  have oS := ok u1 u2
  clear ok t1 t2
  have q0 := A1.reg (i := 0) (by omega)
  obtain ⟨_, _, q34, q35, q36, q37, _, _, _, _, _⟩ := A1.told
  have f0 := A1.fz 0
  have f34 := A1.fz 34
  have f35 := A1.fz 35
  have f36 := A1.fz 36
  have f37 := A1.fz 37
  have A2 : StAt (((((w1.setCell ⟨w.heap.size, 0, none⟩ (.int .u32 0)).setCell ⟨w.heap.size, 34, none⟩ (.int .u32 64)).setCell ⟨w.heap.size, 35, none⟩ (.int .u32 68)).setCell ⟨w.heap.size, 36, none⟩ (.bool slot)).setCell ⟨w.heap.size, 37, none⟩ (.int .u32 0)) w.heap.size (Tk S slot) := ((((A1.putR 0 (by omega) 0).putPc 64).putNx 68).putSl slot).putSt 0
  have K2 : Kept w1 (((((w1.setCell ⟨w.heap.size, 0, none⟩ (.int .u32 0)).setCell ⟨w.heap.size, 34, none⟩ (.int .u32 64)).setCell ⟨w.heap.size, 35, none⟩ (.int .u32 68)).setCell ⟨w.heap.size, 36, none⟩ (.bool slot)).setCell ⟨w.heap.size, 37, none⟩ (.int .u32 0)) (· = w.heap.size) := (((((Kept.refl w1 _).put 0 _).put 34 _).put 35 _).put 36 _).put 37 _
  go_wp2_with fail
  generalize ((((w1.setCell ⟨w.heap.size, 0, none⟩ (.int .u32 0)).setCell ⟨w.heap.size, 34, none⟩ (.int .u32 64)).setCell ⟨w.heap.size, 35, none⟩ (.int .u32 68)).setCell ⟨w.heap.size, 36, none⟩ (.bool slot)).setCell ⟨w.heap.size, 37, none⟩ (.int .u32 0) = w2 at *
  have hb2 : Below w.heap.size w w2 := K2.below hb1 (Nat.le_refl _) (fun k hk e => by omega)
  clear q0 q34 q35 q36 q37 q42 f0 f34 f35 f36 f37 A1 A0 K2 b1 hb1 hal hsb
  refine (newBus_all (words_nil w2) (by simp)).mono ?_
  rintro e w3 ⟨bb, rb, bp, bw, bh, rfl, NB, b3, lb⟩
  have hs2 := A2.lt
  have A3 := A2.stays b3
  have hb3 : Below w.heap.size w w3 := hb2.trans (b3.mono hb2.size)
  have B3 : BusIs w3 w3.heap.size bb rb bp bw bh 64 (mw []) F0 F0 [] 0 [] (.slice none 0 0) (.slice none 0 0) := NB.is
  have ra3 := ramOf_any B3
  have so3 := store_ok B3.R 64 4 v (by omega) (by omega) v0 v1 (by unfold maxLen; omega) (by decide)
  rw [F0_hit] at so3
  go_wp2_with fail
  refine ra3.mono ?_
  rintro e wx ⟨rfl, hwx⟩
  rw [hwx]
  clear hwx wx ra3
  go_wp2_with fail
  refine so3.mono ?_
  rintro e w4 ⟨rfl, R4, T4⟩
  have B4 : BusIs w4 w3.heap.size bb rb bp bw bh 66 (upd (mw []) 64 4 v) F0 F0 [] 0 [] (.slice none 0 0) (.slice none 0 0) := B3.own R4 T4
  have A4 : StAt w4 w.heap.size (Tk S slot) := A3.block (T4.block _ A3.lt (by omega) (by omega))
  have k4 : Kept w3 w4 (fun k => k = bp ∨ k = bh) := ⟨T4.os, T4.tape, T4.output, T4.size, fun k hk hx => T4.block k hk (fun h => hx (Or.inl h)) (fun h => hx (Or.inr h))⟩
  have hb4 : Below w.heap.size w w4 := k4.below hb3 (Nat.le_refl _) (fun k hk h => by omega)
  have ra4 := ramOf_any B4
  have so4 := store_ok B4.R 384 4 1107296280 (by omega) (by omega) (by omega) (by omega) (by unfold maxLen; omega) (by decide)
  rw [F0_hit] at so4
  clear so3
  go_wp2_with fail
  refine ra4.mono ?_
  rintro e wx ⟨rfl, hwx⟩
  rw [hwx]
  clear hwx wx ra4
  go_wp2_with fail
  refine so4.mono ?_
  rintro e w5 ⟨rfl, R5, T5⟩
  have B5 : BusIs w5 w3.heap.size bb rb bp bw bh 68 (mT v) F0 F0 [] 0 [] (.slice none 0 0) (.slice none 0 0) := B4.own R5 T5
  have z4 := T4.size
  have z3 := b3.size
  have A5 : StAt w5 w.heap.size (Tk S slot) := A4.block (T5.block _ A4.lt (by omega) (by omega))
  have k5 : Kept w4 w5 (fun k => k = bp ∨ k = bh) := ⟨T5.os, T5.tape, T5.output, T5.size, fun k hk hx => T5.block k hk (fun h => hx (Or.inl h)) (fun h => hx (Or.inr h))⟩
  have hb5 : Below w.heap.size w w5 := k5.below hb4 (Nat.le_refl _) (fun k hk h => by omega)
  have apart : w.heap.size ≠ bb ∧ w.heap.size ≠ rb ∧ w.heap.size ≠ bp ∧ w.heap.size ≠ bw ∧ w.heap.size ≠ bh ∧ w.heap.size ≤ bb ∧ w.heap.size ≤ bp ∧ w.heap.size ≤ bh := by omega
  have bl5 : bb < w5.heap.size ∧ rb < w5.heap.size ∧ bp < w5.heap.size ∧ bw < w5.heap.size ∧ bh < w5.heap.size := by have := B5.lb; have := B5.ls; have := B5.lp; have := B5.lw; have := B5.lh; have := B5.bs; omega
  clear so4 R4 R5 T4 T5 B3 B4 A2 A3 A4 NB b3 lb hb2 hb3 hb4 k4 k5 z4 z3
  have tk := took oS slot ⟨mT v, [], 0, []⟩
  have oT := Tk_ok oS slot
  have eT : (Tk S slot).ct = S.ct := rfl
  have eT2 : (Tk S slot).hi = S.hi ∧ (Tk S slot).lo = S.lo := ⟨rfl, rfl⟩
  rw [← eT] at u1 u2
  have tct := tk.ct
  rw [← eT] at tct
  have tex := tk.ex
  rw [← eT2.1, ← eT2.2] at tex
  have ton := tk.on
  clear tk oS h0 h1 eT2
  generalize Tk S slot = S0 at *
  have A6 := st_alloc S0 w5
  have hl5 := load_st A5
  have hal6 : Below w5.heap.size w5 (w5.alloc (.cells (stA S0) 32)) := (Below.refl _ _).alloc (Nat.le_refl _) _
  go_upto_region 14 with fail
  refine wp_region_lit ?_
  refine wpList_loadT rfl 32 _ rfl w.heap.size (stA S0) rfl hl5 ?_
  refine wpList_alloc32 rfl rfl ?_
  refine wpList_store32 rfl _ _ rfl (stA zS) (stA S0) rfl rfl (stA_size _) (stA_size _) (stA_one _) ?_
  refine wpList_nil ?_
  have M6 : Hid (Mach w (w5.alloc (.cells (stA S0) 32)) (w5.alloc (.cells (stA S0) 32)).heap.size w5.heap.size bb rb bp bw bh 68 S0 ⟨mT v, [], 0, []⟩ (.slice none 0 0) (.slice none 0 0)) := by
    have z5 := hb5.size
    exact ⟨A6, oT, (B5.stays hal6).rebase, ⟨by show (0:Int) ≤ 0; omega, by show (0:Int) < _; omega⟩, by simp, by omega, by omega, by omega, by omega, by omega, hb5.trans (hal6.mono hb5.size), by omega, by omega, by omega, by omega⟩
  have A5' := A5.stays hal6
  clear B5 A6 hl5 A5 hb5
  generalize hw6 : w5.alloc (.cells (stA S0) 32) = w6 at *
  have hx6 : w.heap.size < w5.heap.size := by have := A5'.lt; omega
  clear hw6 hal6
  have hs1 := step_any ps pa pf pk pn EH.out TH.out M6.out (by simp) (by simp) (by unfold maxLen; omega) (by omega)
  go_wp2_with fail
  refine hs1.mono ?_
  rintro e w7 ⟨rfl, N7, vo7, vt7, hN7, M7, K7, mo, mt⟩
  have A7 : StAt w7 w.heap.size S0 := A5'.kept K7 (fun h => by
    rcases h with h | h | h | h | h | h
    · omega
    · omega
    · omega
    · omega
    · simp [Value.ownBlock] at h
    · simp [Value.ownBlock] at h)
  have be7 := M7.be
  have s42 := A7.told.2.2.2.2.2.2.2.2.2.2
  obtain ⟨s32, s33, _⟩ := A7.told
  obtain ⟨y32, y33, y34, _, y36, y37, y38, y39, _, _, y42⟩ := M7.a.told
  have hls := load_rg A7
  have hlx := load_rg M7.a
  clear hs1 mo mt
  generalize stepP S0 ⟨mT v, [], 0, []⟩ = D at *
  rw [tct] at y42
  by_cases he : D.1 = -1
  · rw [ton he] at y34
    rw [he]
    clear hlx hls M7 K7 A7
    go_wp2
    go_ret
    exact ⟨rfl, be7⟩
  obtain ⟨c0, c1, e3, e4, e5, e6, e7, e8, e9, e10, e11⟩ := tex he
  rw [e8] at hlx
  rw [e9] at y32
  rw [e10] at y33
  rw [e6] at y34
  rw [e7] at y36
  rw [e5] at y37
  have hlt : ¬ D.1 < 0 := by omega
  clear tex ton
  cases slot with
  | true =>
    have x39 : w7.cell? ⟨w5.heap.size, 39, none⟩ = some (.int .u32 60) := by rw [y39, e3]; rfl
    have x38 : w7.cell? ⟨w5.heap.size, 38, none⟩ = some (.int .u32 (4 * D.1 + 2147483648)) := by rw [y38, e4]; unfold caI; rw [if_pos rfl, Int.add_comm]
    clear y38 y39 e4
    have hs2 := step_any ps pa pf pk pn EH.out TH.out M7 (by rw [e11]; simp) (by rw [e11]; simp) (by unfold maxLen; omega) (by rw [tct]; omega)
    have g2 := eret_step e6 e5 e7 (b := D.2.2) (by rw [e11]; exact mT_ld v)
    rw [g2] at hs2
    have bl7 : ∀ k, vo7.ownBlock = some k → w5.heap.size < k := fun k hk => by have := (M7.B.ro.lt k hk).1; have := M7.lt; omega
    have bl8 : ∀ k, vt7.ownBlock = some k → w5.heap.size < k := fun k hk => by have := (M7.B.rt.lt k hk).1; have := M7.lt; omega
    go_upto_region 25 with fail
    refine wp_region_lit ?_
    refine Go.Great.wpList_runTo rfl _ rfl (.pointer (some ⟨w5.heap.size, 0, none⟩)) w7 (by go_simp) ?_
    refine wpList_loadT rfl 30 _ rfl w5.heap.size (rgA S0.r) (by rfl) hlx ?_
    refine Go.Great.wpList_runTo rfl _ rfl (.pointer (some ⟨w.heap.size, 0, none⟩)) w7 (by go_simp) ?_
    refine wpList_loadT rfl 30 _ rfl w.heap.size (rgA S0.r) (by rfl) hls ?_
    refine wpList_neq30 rfl _ _ _ rfl (rgA S0.r) (by rfl) (by rfl) (neq_rg _ _) ?_
    generalize rgA S0.r = RG at *
    go_wp2_with fail
    refine hs2.mono ?_
    rintro e8' w8 ⟨rfl, N8, vo8, vt8, hN8, M8, K8, _, _⟩
    have A8 : StAt w8 w.heap.size S0 := A7.kept K8 (fun h => by
      rcases h with h | h | h | h | h | h
      · omega
      · omega
      · omega
      · omega
      · have := bl7 _ h; omega
      · have := bl8 _ h; omega)
    have s42' := A8.told.2.2.2.2.2.2.2.2.2.2
    obtain ⟨_, _, z34, z35, _, z37, _, _, _, _, z42⟩ := M8.a.told
    have t34 : w8.cell? ⟨w5.heap.size, 34, none⟩ = some (.int .u32 60) := by rw [z34]; show some (Value.int .u32 D.2.1.ep) = _; rw [e3]; rfl
    have t35 : w8.cell? ⟨w5.heap.size, 35, none⟩ = some (.int .u32 64) := by rw [z35]; show some (Value.int .u32 (Num.lo (D.2.1.ep + 4))) = _; rw [e3]; rfl
    have t37 : w8.cell? ⟨w5.heap.size, 37, none⟩ = some (.int .u32 0) := z37
    have t42 : w8.cell? ⟨w5.heap.size, 42, none⟩ = some (.int .i64 (S0.ct + 2)) := by rw [z42]; show some (Value.int .i64 (D.2.1.ct + 1)) = _; rw [tct]; congr 2; omega
    have be8 := M8.be
    clear z34 z35 z37 z42 hs2 g2 M7 M8 K8 K7 A7 A8
    go_wp2
    go_ret
    exact ⟨rfl, be8⟩
  | false =>
    have x39 : w7.cell? ⟨w5.heap.size, 39, none⟩ = some (.int .u32 64) := by rw [y39, e3]; rfl
    have x38 : w7.cell? ⟨w5.heap.size, 38, none⟩ = some (.int .u32 (4 * D.1)) := by rw [y38, e4]; unfold caI; rw [if_neg (by decide)]
    clear y38 y39 e4
    have hs2 := step_any ps pa pf pk pn EH.out TH.out M7 (by rw [e11]; simp) (by rw [e11]; simp) (by unfold maxLen; omega) (by rw [tct]; omega)
    have g2 := eret_step e6 e5 e7 (b := D.2.2) (by rw [e11]; exact mT_ld v)
    rw [g2] at hs2
    have bl7 : ∀ k, vo7.ownBlock = some k → w5.heap.size < k := fun k hk => by have := (M7.B.ro.lt k hk).1; have := M7.lt; omega
    have bl8 : ∀ k, vt7.ownBlock = some k → w5.heap.size < k := fun k hk => by have := (M7.B.rt.lt k hk).1; have := M7.lt; omega
    go_upto_region 25 with fail
    refine wp_region_lit ?_
    refine Go.Great.wpList_runTo rfl _ rfl (.pointer (some ⟨w5.heap.size, 0, none⟩)) w7 (by go_simp) ?_
    refine wpList_loadT rfl 30 _ rfl w5.heap.size (rgA S0.r) (by rfl) hlx ?_
    refine Go.Great.wpList_runTo rfl _ rfl (.pointer (some ⟨w.heap.size, 0, none⟩)) w7 (by go_simp) ?_
    refine wpList_loadT rfl 30 _ rfl w.heap.size (rgA S0.r) (by rfl) hls ?_
    refine wpList_neq30 rfl _ _ _ rfl (rgA S0.r) (by rfl) (by rfl) (neq_rg _ _) ?_
    generalize rgA S0.r = RG at *
    go_wp2_with fail
    refine hs2.mono ?_
    rintro e8' w8 ⟨rfl, N8, vo8, vt8, hN8, M8, K8, _, _⟩
    have A8 : StAt w8 w.heap.size S0 := A7.kept K8 (fun h => by
      rcases h with h | h | h | h | h | h
      · omega
      · omega
      · omega
      · omega
      · have := bl7 _ h; omega
      · have := bl8 _ h; omega)
    have s42' := A8.told.2.2.2.2.2.2.2.2.2.2
    obtain ⟨_, _, z34, z35, _, z37, _, _, _, _, z42⟩ := M8.a.told
    have t34 : w8.cell? ⟨w5.heap.size, 34, none⟩ = some (.int .u32 64) := by rw [z34]; show some (Value.int .u32 D.2.1.ep) = _; rw [e3]; rfl
    have t35 : w8.cell? ⟨w5.heap.size, 35, none⟩ = some (.int .u32 68) := by rw [z35]; show some (Value.int .u32 (Num.lo (D.2.1.ep + 4))) = _; rw [e3]; rfl
    have t37 : w8.cell? ⟨w5.heap.size, 37, none⟩ = some (.int .u32 0) := z37
    have t42 : w8.cell? ⟨w5.heap.size, 42, none⟩ = some (.int .i64 (S0.ct + 2)) := by rw [z42]; show some (Value.int .i64 (D.2.1.ct + 1)) = _; rw [tct]; congr 2; omega
    have be8 := M8.be
    clear z34 z35 z37 z42 hs2 g2 M7 M8 K8 K7 A7 A8
    go_wp2
    go_ret
    exact ⟨rfl, be8⟩
end Go.Proofs.YtckcbnfobjmhpaaDoor
