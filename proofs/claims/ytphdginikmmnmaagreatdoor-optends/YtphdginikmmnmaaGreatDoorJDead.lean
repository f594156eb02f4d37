/-
  Package opt: Dead.
-/
import Derived.Laws.Tables
import Derived.Lib.BufferMore
import Derived.Test.YtphdginikmmnmaaGreatDoorJKnown
import Derived.Test.YtphdginikmmnmaaGreatDoorQBack
namespace Go.Proofs.YtphdginikmmnmaaGreatDoor
open Go.RowKit Go.Maps Go.Shelf
open Num
set_option linter.unusedVariables false
attribute [local go_sem] Oper.semAt_some
set_option maxRecDepth 100000 in
set_option maxHeartbeats 4000000 in
theorem dead_bad (pe : Nat → Addr) {w : World} (E : Eg pe w) {v : Value} {l : List Opx} (A : OpsIn w v l) (hl : (l.length : Int) ≤ 1000000) (pc many : Int) (m0 : -9223372036854775808 ≤ many) (m1 : many ≤ 9223372036854775807) (hf : codeF many l ≠ (0, -1)) :
    Calls Tryz.prog 25 #[.agg #[.int .u32 pc, .int .i64 many, v]] w fun e w' => e = .returned (.int .i64 0) ∧ Below w.heap.size w w' := by
  have hB0 : Below w.heap.size w (w.alloc (.cells #[.int .u32 pc, .int .i64 many, v] 34)) := (Below.refl _ _).alloc (Nat.le_refl _) _
  have hck := check_bad pe (E.stays hB0) (A.stays hB0) hl pc many m0 m1 hf
  obtain ⟨ao, cap, rfl, _⟩ := A.sh
  clear E A hf
  go_enter Tryz.func25, Tryz.ntmps25
  go_wp2_with fail
  refine hck.mono ?_
  rintro e w1 ⟨⟨t, p, rfl, _⟩, hb1⟩
  have HB : Hid (Below w.heap.size w w1) := hB0.trans (hb1.mono (by simp))
  clear hck hb1
  go_wp2
  go_ret
  exact ⟨rfl, HB.out⟩
/-- what nobody asks for -/
def ndA (n : Nx) : Array Value := ((List.range 64).map fun (j : Nat) => Value.bool (n j)).toArray
theorem ndA_size (n : Nx) : (ndA n).size = 64 := by simp [ndA]
theorem ndA_one (n : Nx) : (ndA n).all (·.oneCell') = true := by
  rw [Array.all_eq_true_iff_forall_mem]
  intro x hx
  simp only [ndA, List.mem_toArray, List.mem_map] at hx
  obtain ⟨i, _, rfl⟩ := hx
  rfl
theorem nd_row {w : World} {b : Nat} {n : Nx} (h : w.heap[b]? = some (.cells (ndA n) 94 (0, 0))) : NeedAt w b n :=
  ⟨_, h, ndA_size n, fun j hj => by unfold ndA; rw [List.getElem?_toArray, List.getElem?_map, List.getElem?_range hj]; rfl⟩
theorem nd_built : Tryz.prog.built 94 [] = some (ndA fun _ => false) := by kernel_rfl
theorem nd_zero (w : World) : (zeroValue 94).run Tryz.prog w = .ok (.agg (ndA fun _ => false)) w := by kernel_rfl
theorem setRow_other (w : World) (b k : Nat) (cs : Array Value) (h : k ≠ b) : (w.setRow b cs).heap[k]? = w.heap[k]? := by
  unfold World.setRow
  simp only
  rw [Array.getElem?_modify]
  rw [if_neg (by omega)]
theorem below_setRow' {B : Nat} {w w' : World} {b : Nat} (h : Below B w w') (hb : B ≤ b) (cs : Array Value) : Below B w (w'.setRow b cs) :=
  h.trans ⟨rfl, rfl, rfl, by simp [World.setRow], fun k hk => setRow_other _ _ _ _ (by omega)⟩
section
variable {ops : Array Oper} {rest : List Oper} {o : Oper} {a : Act} {w : World} {Q : Exit → Act → World → Prop}
theorem wpList_buildNd (hg : o.guard = none) (ho : o.op = .build 94 #[]) (h : wpList Tryz.prog ops Q rest (a.put o.dst (.agg (ndA fun _ => false))) w) : wpList Tryz.prog ops Q (o :: rest) a w := by
  have e : Tryz.prog.built 94 (Array.map (fun ((i, x) : Nat × Operand) => (i, a.eval x)) #[]).toList = some (ndA fun _ => false) := by simpa using nd_built
  refine wpList_build hg 94 #[] ho (by rw [e]; rfl) ?_
  rw [e]; exact h
theorem wpList_allocNd (hg : o.guard = none) (hop : o.op = Op.alloc 94)
    (h : wpList Tryz.prog ops Q rest (a.put o.dst (.pointer (some ⟨w.heap.size, 0, none⟩))) (w.alloc (.cells (ndA fun _ => false) 94))) : wpList Tryz.prog ops Q (o :: rest) a w := by
  refine wpList_plain hg fun K hK => ?_
  unfold Oper.wp
  have e : (execOp a.eval o).run Tryz.prog w = .ok (.value (.pointer (some ⟨w.heap.size, 0, none⟩))) (w.alloc (.cells (ndA fun _ => false) 94)) := by
    unfold execOp; rw [hop]
    simp only [Instr.alloc, newVar, newRow, Sem.run_bind, nd_zero, Result.andThen_ok]
    rfl
  rw [e, Oper.upon_value]
  exact hK _ _ h
theorem wpList_storeNd (hgd : o.guard = none) (x y : Operand) (ho : o.op = .store 94 x y) (b : Nat) (n n' : Nx) (hx : a.eval x = .pointer (some ⟨b, 0, none⟩)) (hy : a.eval y = .agg (ndA n)) (hb : w.heap[b]? = some (.cells (ndA n') 94 (0, 0)))
    (h : wpList Tryz.prog ops Q rest (a.put o.dst undef) (w.setRow b (ndA n))) : wpList Tryz.prog ops Q (o :: rest) a w :=
  wpList_store_row hgd 94 x y ho b (ndA n) hx hy 94 (ndA n') hb (by rw [ndA_size]; kernel_rfl) (by rw [ndA_size, ndA_size]) (ndA_one n) h
end
theorem deadC_le : ∀ l : List Opx, deadC l ≤ l.length
  | [] => Nat.le_refl _
  | o :: l => by
    show (if spareB (needN l) o = true then 1 else 0) + deadC l ≤ l.length + 1
    have := deadC_le l
    split <;> omega
theorem okW_of {o : Opx} {many : Int} (h : opE o many = 0) (ok : o.ok) : o.okW := by
  obtain ⟨hk, hb, _⟩ := opE_zero.1 h
  have hl := kn_lt o.s
  unfold bndB at hb
  simp only [Bool.and_eq_true] at hb
  obtain ⟨⟨⟨⟨b1, b2⟩, b3⟩, _⟩, _⟩ := hb
  have hd : rD o.k = 2 → 1 ≤ o.d ∧ o.d < 64 := fun e => by rw [e] at b1; unfold alw at b1; simpa using b1
  have ha : rA o.k = 1 → 0 ≤ o.a ∧ o.a < 64 := fun e => by rw [e] at b2; unfold alw at b2; simpa using b2
  have hbb : rB o.k = 1 → 0 ≤ o.b ∧ o.b < 64 := fun e => by rw [e] at b3; unfold alw at b3; simpa using b3
  refine ⟨?_, ?_, fun x hx => ?_, ok⟩
  · unfold wrX; split
    · rename_i e; have := hd e; omega
    · omega
  · unfold wrX; split
    · rename_i e; have := hd e; omega
    · omega
  · unfold rdX at hx
    simp only [List.mem_append] at hx
    rcases hx with (hx | hx) | hx
    · split at hx
      · rename_i e; rw [List.mem_singleton] at hx; rw [hx]; exact ha e
      · cases hx
    · split at hx
      · rename_i e; rw [List.mem_singleton] at hx; rw [hx]; exact hbb e
      · cases hx
    · split at hx
      · rename_i e
        rw [List.mem_singleton] at hx
        have h17 : 17 ≤ o.k ∧ o.k ≤ 20 := by unfold dvB at e; simpa using e
        have := hd (by unfold rD; rw [if_pos (by omega)])
        rw [hx]; omega
      · cases hx
set_option maxRecDepth 100000 in
set_option maxHeartbeats 4000000 in
theorem dead_ok (pe : Nat → Addr) {w : World} (E : Eg pe w) {v : Value} {l : List Opx} (A : OpsIn w v l) (hl : l.length ≤ 1000000) (pc many : Int) (m0 : -9223372036854775808 ≤ many) (m1 : many ≤ 9223372036854775807) (hf : codeF many l = (0, -1)) :
    Calls Tryz.prog 25 #[.agg #[.int .u32 pc, .int .i64 many, v]] w fun e w' => e = .returned (.int .i64 (deadC l)) ∧ Below w.heap.size w w' := by
  have hB0 : Below w.heap.size w (w.alloc (.cells #[.int .u32 pc, .int .i64 many, v] 34)) := (Below.refl _ _).alloc (Nat.le_refl _) _
  have hck := check_ok pe (E.stays hB0) (A.stays hB0) (by omega) pc many m0 m1 hf
  have W0 := codeF_well.1 hf
  have hpos : 0 < l.length := List.length_pos_iff.2 W0.ne
  obtain ⟨ao, cap, rfl, hc, hh⟩ := A.sh
  obtain ⟨b, off, rfl, hcell⟩ := hh hpos
  have hbl : b < w.heap.size := World.block_lt_of_cell? _ _ (hcell 0 _ (List.getElem?_eq_getElem hpos) 0 _ rfl)
  have HC : Hid (OpsC w b off l) := hcell
  have hOW : Hid (∀ o ∈ l, o.okW) := fun o ho => okW_of (wellL_mem W0.ops o ho) (A.ok o ho)
  clear E hf hh hcell W0 A
  refine (callsIn_wide (n := 4)).1 ?_
  refine callsIn_of_wp_marks Tryz.func25 rfl trivial ?_ rfl
  simp only [Tryz.ntmps25, List.size_toArray, List.length_cons, List.length_nil, Nat.reduceAdd, Nat.reduceSub, Array.replicate_succ, Array.replicate_zero, List.push_toArray, List.append_toArray, List.nil_append, List.cons_append]
  refine wpIn_wide.2 ?_
  go_wp2_with fail
  refine hck.mono ?_
  rintro e w1 ⟨rfl, hb1⟩
  obtain ⟨c, hfz⟩ := bcell6 hb1
  have k2 : w1.cell? ⟨w.heap.size, 2, none⟩ = some (.slice (some ⟨b, off, none⟩) l.length cap) := by rw [c]; simp
  have HB1 : Hid (Below w.heap.size w w1) := hB0.trans (hb1.mono (by simp))
  have hz1 : w.heap.size < w1.heap.size := by have := hb1.size; simp at this; omega
  clear hck hb1 c hfz hB0
  have hnd : ((w1.alloc (.cells #[.int .i64 0] 3)).alloc (.cells (ndA fun _ => false) 94)).heap[w1.heap.size + 1]? = some (.cells (ndA fun _ => false) 94 (0, 0)) := by
    have := heap_alloc_new (w1.alloc (.cells #[.int .i64 0] 3)) (.cells (ndA fun _ => false) 94)
    simpa using this
  go_upto_region 4 with (first | (refine wpList_buildNd rfl rfl ?_) | (refine wpList_allocNd rfl rfl ?_) | (refine wpList_storeNd rfl _ _ rfl (w1.heap.size + 1) (fun _ => false) (fun _ => false) rfl rfl hnd ?_))
  have N1 : NeedAt (((w1.alloc (.cells #[.int .i64 0] 3)).alloc (.cells (ndA fun _ => false) 94)).setRow (w1.heap.size + 1) (ndA fun _ => false)) (w1.heap.size + 1) (fun _ => false) := nd_row (setRow_heap _ _ _ _ _ _ hnd)
  have G1 : Below w1.heap.size w1 (((w1.alloc (.cells #[.int .i64 0] 3)).alloc (.cells (ndA fun _ => false) 94)).setRow (w1.heap.size + 1) (ndA fun _ => false)) := below_setRow' (((Below.refl _ _).alloc (Nat.le_refl _) _).alloc (by simp) _) (by omega) _
  have C1 : RowIs (((w1.alloc (.cells #[.int .i64 0] 3)).alloc (.cells (ndA fun _ => false) 94)).setRow (w1.heap.size + 1) (ndA fun _ => false)) w1.heap.size 3 1 (fun _ => .int .i64 0) := by
    refine ⟨#[.int .i64 0], ?_, rfl, fun j hj => (by cases j with | zero => rfl | succ k => omega)⟩
    rw [setRow_other _ _ _ _ (by omega), Below.heap_alloc _ _ _ (by simp)]
    exact heap_alloc_new w1 _
  have hz2 : (((w1.alloc (.cells #[.int .i64 0] 3)).alloc (.cells (ndA fun _ => false) 94)).setRow (w1.heap.size + 1) (ndA fun _ => false)).heap.size = w1.heap.size + 2 := by simp [World.setRow]
  generalize ((w1.alloc (.cells #[.int .i64 0] 3)).alloc (.cells (ndA fun _ => false) 94)).setRow (w1.heap.size + 1) (ndA fun _ => false) = V at *
  have kV : V.cell? ⟨w.heap.size, 2, none⟩ = some (.slice (some ⟨b, off, none⟩) l.length cap) := (G1.cell (p := ⟨w.heap.size, 2, none⟩) hz1).trans k2
  have hzV : w.heap.size < V.heap.size := by omega
  clear hnd k2
  go_wp2_with (go_at_call 52; refine (callsIn_wide.1 (back_in Fence.wide 3 trivial rfl _ _ _ _)).mono ?_; rintro e w' ⟨rfl, rfl⟩)
  rename_i K0 hK0
  have HK0 : Hid (∀ (a : Act) (w : World), _ → K0 a w) := hK0
  clear hK0
  obtain ⟨p, hp⟩ := oqs_of l hOW.out
  have HP : Hid (oqs p = l) := hp
  have hpl : p.length ≤ 1000000 := by rw [← hp] at hl; simpa [oqs] using hl
  clear hp
  have bN := Boxed.new V 23 (.slice (some ⟨b, off, none⟩) l.length cap)
  rw [hz2] at bN
  have N2 : NeedAt (V.alloc (.cells #[.slice (some ⟨b, off, none⟩) l.length cap] 23)) (w1.heap.size + 1) (fun _ => false) := RowIs.stays N1 ((Below.refl _ _).alloc (Nat.le_refl _) _)
  have C2 : RowIs (V.alloc (.cells #[.slice (some ⟨b, off, none⟩) l.length cap] 23)) w1.heap.size 3 1 (fun _ => .int .i64 0) := RowIs.stays C1 ((Below.refl _ _).alloc (Nat.le_refl _) _)
  have B2 : Below w.heap.size w (V.alloc (.cells #[.slice (some ⟨b, off, none⟩) l.length cap] 23)) := (HB1.out.trans (G1.mono (by omega))).alloc (by omega) _
  have hz3 : (V.alloc (.cells #[.slice (some ⟨b, off, none⟩) l.length cap] 23)).heap.size = w1.heap.size + 3 := by simp [hz2]
  have hO : OpsC (V.alloc (.cells #[.slice (some ⟨b, off, none⟩) l.length cap] 23)) b off l := HC.out.block (B2.block b hbl)
  have hcS := bN.cell
  clear N1 C1 G1 kV hzV bN HB1
  generalize V.alloc (.cells #[.slice (some ⟨b, off, none⟩) l.length cap] 23) = U at *
  refine (wpIn_wide (n := 4)).1 ?_
  refine wpIn_rangeFunc_ownH (n := 4) rfl (by decide) (gf := 82) (lb := #[.pointer (some ⟨w1.heap.size + 2, 0, none⟩)]) rfl trivial (enters_of Tryz.func82 (by kernel_rfl) rfl)
    (back_stops Fence.wide 3 trivial rfl (by decide) (w1.heap.size + 2) (w1.heap.size + 3) w1.heap.size (w1.heap.size + 1) b off cap p hpl U (by omega) (by omega) (by omega) (by omega) ⟨by omega, by omega, by omega, by omega⟩ l HP.out hcS hO) KpO.trans (KpO.put (by omega)) (Below.refl _ _) (fun _ => rfl)
    (fun pre W => (RowIs W w1.heap.size 3 1 (fun _ => .int .i64 (deadC (cameL pre))) ∧ NeedAt W (w1.heap.size + 1) (needN (cameL pre))) ∧ Below w.heap.size w W ∧ w1.heap.size + 3 ≤ W.heap.size)
    (fun c pre W => False)
    (OwnFrom.and (Own.from (fun s A B row hs hg hr => ⟨row_kept hs.1 hg hr, row_kept hs.2 hg hr⟩) _) (OwnFrom.and (ownFrom_below (Nat.le_refl _) (by omega)) (fun s A B row hs hg hr => Nat.le_trans hs hg.size)))
    (fun c => fun s A B row hs hg hr => hs)
    ⟨⟨C2, N2⟩, B2, by omega⟩
    (fun y a' W => ∃ Bx : Nat, w1.heap.size + 3 ≤ Bx ∧ BoxO W Bx y.2.1 ∧ a' = { tmps := #[.agg #[.int .u32 pc, .int .i64 many, .slice (some ⟨b, off, none⟩) l.length cap], .pointer (some ⟨w.heap.size, 0, none⟩), .int .i64 0, .pointer (some ⟨w1.heap.size, 0, none⟩), .pointer (some ⟨w1.heap.size + 1, 0, none⟩), undef, .pointer (some ⟨Bx, 0, none⟩), .agg #[.int .u32 pc, .int .i64 many, .slice (some ⟨b, off, none⟩) l.length cap], .nilIface, .bool false, .agg (ndA fun _ => false), .pointer (some ⟨w.heap.size, 2, none⟩), .slice (some ⟨b, off, none⟩) l.length cap, .func (.func 82) #[] #[.pointer (some ⟨w1.heap.size + 2, 0, none⟩)], .int .i64 (y.1 : Int), opV y.2.1, undef, undef, undef, undef, undef, undef, undef], defers := [] })
    (fun y a' s A B row hs hg hr => by
      obtain ⟨Bx, h1, h2, h5⟩ := hs
      have hr' : ∀ r, row = some r → ∃ o : Obj, A.heap[r]? = some o ∧ o.isCells = false := fun r e => (hr r e).2
      exact ⟨Bx, h1, ⟨cell_kept h2.c0 hg hr', cell_kept h2.c1 hg hr', cell_kept h2.c2 hg hr', cell_kept h2.c3 hg hr', cell_kept h2.c4 hg hr', cell_kept h2.c5 hg hr'⟩, h5⟩) ?assign ?body ?done ?stop
  case assign =>
    rintro lp pre y W K hi hK
    unfold enO opV
    gi_wp2
    refine hK _ _ ((KeepsOthers.alloc _ _).from _) (KpO.of_below ((Below.refl _ W).alloc (Nat.le_refl _) _) hi.2.2) ?_ ⟨W.heap.size, hi.2.2, BoxO.new W y.2.1, rfl⟩
    obtain ⟨⟨i1, i2⟩, i5, i6⟩ := hi
    have hb := (Below.refl W.heap.size W).alloc (Nat.le_refl _) (.cells #[.string y.2.1.s, .int .i64 y.2.1.d, .int .i64 y.2.1.a, .int .i64 y.2.1.b, .int .u32 y.2.1.i, .int .i64 y.2.1.t] 60)
    exact ⟨⟨RowIs.stays i1 hb, RowIs.stays i2 hb⟩, i5.alloc (Nat.le_trans (Nat.le_refl _) i5.size) _, by simp; omega⟩
  case body =>
    rintro lo pre y a' W hl ⟨r, hr⟩ ⟨⟨i1, i2⟩, i5, i6⟩ ⟨Bx, hBx, bx, rfl⟩ hlt
    have hbs : Bx < W.heap.size := bx.lt
    obtain ⟨k0, k1, k2, k3, k4, k5⟩ := bx
    have hsp := spare_any i2 y.2.1 y.2.2.w0 y.2.2.w1
    have hdc : cameL (pre ++ [y]) = y.2.1 :: cameL pre := came_snoc pre y
    have HD : Hid (deadC (cameL (pre ++ [y])) = (if spareB (needN (cameL pre)) y.2.1 = true then 1 else 0) + deadC (cameL pre)) := by show _ = _; rw [hdc]; rfl
    have HN : Hid (needN (cameL (pre ++ [y])) = passN (needN (cameL pre)) y.2.1) := by show _ = _; rw [hdc]; rfl
    have hdl : Hid (deadC (cameL pre) ≤ 1000000) := by
      show _ ≤ _
      have := deadC_le (cameL pre)
      have h2 : (cameL pre).length = pre.length := by simp [cameL]
      omega
    have c1 := i1.cell (j := 0) (by omega)
    have f1 := i1.fz 0
    have hdl' := hdl.out
    have OKY : Hid y.2.1.okW := y.2.2
    generalize spareB (needN (cameL pre)) y.2.1 = sb at *
    generalize hdn : deadC (cameL pre) = dn at *
    have I1 : Hid (RowIs W w1.heap.size 3 1 (fun _ => .int .i64 (dn : Int))) := i1
    have I2 : Hid (NeedAt W (w1.heap.size + 1) (needN (cameL pre))) := i2
    have I5 : Hid (Below w.heap.size w W) := i5
    clear i1 i2 i5 hdn hdc
    unfold opV at hsp ⊢
    gi_wp2_with fail
    refine ⟨trivial, ?_⟩
    refine (CallsIn.inRound lo (callsIn_wide.2 hsp)).mono ?_
    rintro e W1 ⟨rfl, hb1⟩
    have hx1 : ∀ j, W1.cell? ⟨Bx, j, none⟩ = W.cell? ⟨Bx, j, none⟩ := fun j => hb1.cell (p := ⟨Bx, j, none⟩) hbs
    have hbs1 : Bx < W1.heap.size := by have := hb1.size; omega
    have J1 : Hid (RowIs W1 w1.heap.size 3 1 (fun _ => .int .i64 (dn : Int))) := I1.out.stays hb1
    have J2 : Hid (NeedAt W1 (w1.heap.size + 1) (needN (cameL pre))) := RowIs.stays I2.out hb1
    have J5 : Hid (Below w.heap.size w W1) := I5.out.trans (hb1.mono I5.out.size)
    have J6 : Hid (w1.heap.size + 3 ≤ W1.heap.size) := by show _ ≤ _; have := hb1.size; omega
    have JK : Hid (KpO (w1.heap.size + 3) w1.heap.size (w1.heap.size + 1) W W1) := KpO.of_below hb1 i6
    have JF : Hid (KeepsFrom U.heap.size W W1) := KeepsFrom.of_grownBy (row := none) ⟨hb1.os, hb1.tape, hb1.output, hb1.size, fun k hk _ => hb1.block k hk⟩ (by simp)
    have d1 := J1.out.cell (j := 0) (by omega)
    have e1 := J1.out.fz 0
    have hzc : w1.heap.size < W1.heap.size := by have := J6.out; omega
    clear hsp hb1 c1 f1 I1 I2 I5
    cases sb with
    | true =>
      have K1 := J1.out.put 0 (.int .i64 ((dn : Int) + 1)) (fun _ => .int .i64 ((dn : Int) + 1)) rfl (fun j hj hn => by omega)
      have K2 : NeedAt (W1.setCell ⟨w1.heap.size, 0, none⟩ (.int .i64 ((dn : Int) + 1))) (w1.heap.size + 1) (needN (cameL pre)) := RowIs.block J2.out (Below.heap_setCell _ _ _ _ (by show w1.heap.size + 1 ≠ w1.heap.size; omega))
      have KK := JK.out.trans (KpO.of_grown (b := w1.heap.size) (x2 := w1.heap.size + 1) (grown_set (w := W1) ⟨w1.heap.size, 0, none⟩ (.int .i64 ((dn : Int) + 1))) J6.out (.inl rfl))
      have KF := JF.out.trans ((KeepsOthers.setCell W1 ⟨w1.heap.size, 0, none⟩ (.int .i64 ((dn : Int) + 1))).from U.heap.size)
      have K5 := J5.out.setCell (p := ⟨w1.heap.size, 0, none⟩) (by show w.heap.size ≤ w1.heap.size; omega) (.int .i64 ((dn : Int) + 1))
      have K6 : w1.heap.size + 3 ≤ (W1.setCell ⟨w1.heap.size, 0, none⟩ (.int .i64 ((dn : Int) + 1))).heap.size := by simp [World.setCell]; exact J6.out
      have K1 : Hid _ := K1
      have K2 : Hid _ := K2
      have KK : Hid _ := KK
      have KF : Hid _ := KF
      have K5 : Hid _ := K5
      have K6 : Hid _ := K6
      clear J1 J2 JK JF J5 J6
      gi_wp2_with fail
      generalize W1.setCell ⟨w1.heap.size, 0, none⟩ (.int .i64 ((dn : Int) + 1)) = W2 at *
      refine ⟨trivial, ?_⟩
      refine (CallsIn.inRound lo (callsIn_wide.2 (pass_any K2.out y.2.1 OKY.out.w0 OKY.out.w1 OKY.out.r))).mono ?_
      rintro e W3 ⟨rfl, hN3, hg3⟩
      have L1 := RowIs.block K1.out (hg3.block w1.heap.size (RowIs.lt K1.out) (by intro e; have := Option.some.inj e; omega))
      have LF := KF.out.trans (KeepsFrom.of_grownBy (B := U.heap.size) hg3 (fun j e => by have := Option.some.inj e; omega))
      have LK := KK.out.trans (KpO.of_grown hg3 K6.out (.inr (.inl rfl)))
      have L5 := below_of_grown K5.out hg3 (Nat.le_refl _) (by omega)
      have L6 := Nat.le_trans K6.out hg3.size
      have LH : Hid (_ ∧ _) := ⟨hN3, hg3⟩
      clear hN3 hg3
      gi_wp2
      refine ⟨LF, LK, ⟨?_, ?_⟩, L5, L6⟩
      · have e0 : (deadC (cameL (pre ++ [y])) : Int) = dn + 1 := by rw [HD.out]; simp; omega
        rw [e0]; exact L1
      · rw [HN.out]; exact LH.out.1
    | false =>
      have K1 := J1
      have K2 := J2
      have KK := JK
      have KF := JF
      have K5 := J5
      have K6 := J6
      clear J1 J2 JK JF J5 J6
      gi_wp2_with fail
      refine ⟨trivial, ?_⟩
      refine (CallsIn.inRound lo (callsIn_wide.2 (pass_any K2.out y.2.1 OKY.out.w0 OKY.out.w1 OKY.out.r))).mono ?_
      rintro e W3 ⟨rfl, hN3, hg3⟩
      have L1 := RowIs.block K1.out (hg3.block w1.heap.size (RowIs.lt K1.out) (by intro e; have := Option.some.inj e; omega))
      have LF := KF.out.trans (KeepsFrom.of_grownBy (B := U.heap.size) hg3 (fun j e => by have := Option.some.inj e; omega))
      have LK := KK.out.trans (KpO.of_grown hg3 K6.out (.inr (.inl rfl)))
      have L5 := below_of_grown K5.out hg3 (Nat.le_refl _) (by omega)
      have L6 := Nat.le_trans K6.out hg3.size
      have LH : Hid (_ ∧ _) := ⟨hN3, hg3⟩
      clear hN3 hg3
      gi_wp2
      refine ⟨LF, LK, ⟨?_, ?_⟩, L5, L6⟩
      · have e0 : (deadC (cameL (pre ++ [y])) : Int) = dn := by rw [HD.out]; simp
        rw [e0]; exact L1
      · rw [HN.out]; exact LH.out.1
  case done =>
    rintro D ys W hD rfl ⟨⟨h1, h2⟩, hB, hS⟩ hK
    rw [came_all, HP.out] at h1
    have hc1 := h1.cell (j := 0) (by omega)
    refine HK0.out _ _ ?_
    refine (wpIn_wide (n := 4)).1 ?_
    gi_wp2
    refine ⟨by simp, .inl ⟨_, _, rfl, run_takeDeferred hK, ?_⟩⟩
    refine ⟨.int .i64 (deadC l), ?_, rfl, hB.trans (belowK_b (w := w) (Nat.le_refl _) W D _ _ (by omega) hK rfl rfl)⟩
    simp [results, Tryz.f25, go_sem]
  case stop =>
    rintro D c pre W hD ⟨k, hk, rfl⟩ hF hK
    exact hF.elim
end Go.Proofs.YtphdginikmmnmaaGreatDoor
/-
  slices.Clone of ops.
-/
namespace Go.Proofs.YtphdginikmmnmaaGreatDoor
open Go.RowKit Go.Maps
open Num
set_option linter.unusedVariables false
theorem rw_of_row {w : World} {base cap n g : Nat} {l : List Opx} (h : w.ownsRow base 60 6 (.slice (some ⟨g, 0, none⟩) n cap) l.length (opL l)) : OpsRw w g l := by
  obtain ⟨h1, h2⟩ := h
  rcases h2 with ⟨hv, _⟩ | ⟨g', cap', cur, hv, hb, hg, r1, r2, r3, r4⟩
  · cases hv
  · cases hv
    refine ⟨fun i o hi j u hj => ?_, fun j => by simp [World.frozen?, hg]⟩
    rw [cell_of_row _ _ _ _ _ _ hg]
    have hin : i < l.length := (List.getElem?_eq_some_iff.1 hi).1
    have hj6 : j < 6 := (List.getElem?_eq_some_iff.1 hj).1
    have : (opL l)[i * 6 + j]? = some u := by rw [opL_get l i o j hi hj6]; exact hj
    rw [← r4, List.getElem?_take, if_pos (by omega)] at this
    rw [← Array.getElem?_toList]; exact this
set_option maxRecDepth 100000 in
set_option maxHeartbeats 2000000 in
theorem clone_any {w : World} {v : Value} {l : List Opx} (A : OpsIn w v l) (hl : l.length ≤ 1000000) (hpos : 0 < l.length) :
    Calls Tryz.prog 27 #[v] w fun e w' => ∃ g cap, e = .returned (.slice (some ⟨g, 0, none⟩) l.length cap) ∧ l.length ≤ cap ∧ OpsRw w' g l ∧ w.heap.size ≤ g ∧ Below w.heap.size w w' := by
  obtain ⟨ao, cap, rfl, hc, hh⟩ := A.sh
  obtain ⟨b, off, rfl, hcell⟩ := hh hpos
  obtain ⟨i0, hi, iz0, iz1, iz2⟩ := info_parts infoOp
  have hnews0 : ∀ j u, (opL l)[j]? = some u → w.cell? ((⟨b, off, none⟩ : Addr).add j) = some u := opL_at hcell
  have hq := fun w => Go.Lib.run_eql_slice_some_nil (P := Tryz.prog) w (t := 23) (e := 60) ⟨b, off, none⟩ l.length cap Tryz.underlying23
  have hO : (w.alloc (.cells #[] 60)).ownsRow w.heap.size 60 6 (.slice (some ⟨w.heap.size, 0, none⟩) 0 0) 0 [] := ⟨rfl, .inr ⟨w.heap.size, 0, #[], rfl, Nat.le_refl _, heap_alloc_new w _, Nat.le_refl _, Nat.zero_le _, rfl, rfl⟩⟩
  have hnews : ∀ j u, (opL l)[j]? = some u → (w.alloc (.cells #[] 60)).cell? ((⟨b, off, none⟩ : Addr).add j) = some u := fun j u hj => (World.grownBy_alloc w _ none).cell (hnews0 j u hj) (by simp)
  clear A hh hcell
  go_enter Tryz.func27, Tryz.ntmps27
  go_wp2_with (at_builtin; refine wpList_append_moved rfl _ _ 23 rfl w.heap.size 60 i0 _ 6 56 Tryz.underlying23 hi iz0 iz1 iz2 rfl (by decide) (.slice (some ⟨w.heap.size, 0, none⟩) 0 0) 0 [] rfl hO ⟨b, off, none⟩ l.length cap (opL l) rfl (opL_len l) hnews (opL_one l) (by unfold maxLen; omega) (by omega) (by simp) ?_; intro v' w3 ho hg hm)
  go_ret
  rw [Nat.zero_add, List.nil_append] at ho
  obtain ⟨n, hn⟩ : ∃ n, l.length = n + 1 := ⟨l.length - 1, by omega⟩
  have ho' := ho
  rw [hn] at ho'
  obtain ⟨g, cap', hv, hge⟩ := own_posg ho'
  rw [← hn] at hv
  subst hv
  refine ⟨g, cap', rfl, ?_, rw_of_row ho, hge, ((Below.refl _ w).alloc (Nat.le_refl _) _).grown hg (by simp) (fun k e => by have : w.heap.size = k := Option.some.inj e; omega)⟩
  rcases ho.2 with ⟨hv, _⟩ | ⟨_, _, _, hv, _, _, r1, _⟩
  · cases hv
  · cases hv; exact r1
end Go.Proofs.YtphdginikmmnmaaGreatDoor
/-
  Package opt: ops without dead ones.
-/
namespace Go.Proofs.YtphdginikmmnmaaGreatDoor
open Go.RowKit Go.Maps Go.Shelf
open Num
set_option linter.unusedVariables false
attribute [local go_sem] Oper.semAt_some
/-- ops that are kept, so far: the last first -/
structure DpAt (n₀ kb nb : Nat) (W : World) (s : List Opx) : Prop where
  v : ∃ vk, RowIs W kb 23 1 (fun _ => vk) ∧ W.ownsRow n₀ 60 6 vk (dropD s).length (opL (dropD s).reverse)
  nd : NeedAt W nb (needN (dropD s))
theorem own_kept {A B : World} {row : Option Nat} {base : Nat} {e : TypeId} {size n : Nat} {v : Value} {xs : List Value} (h : A.ownsRow base e size v n xs) (hg : A.grownBy B row) (hr : ∀ r, row = some r → ∃ o : Obj, A.heap[r]? = some o ∧ o.isCells = false) : B.ownsRow base e size v n xs := by
  refine ⟨h.1, ?_⟩
  rcases h.2 with hn | ⟨g, cap, cur, hv, hb, hgg, rest⟩
  · exact .inl hn
  · refine .inr ⟨g, cap, cur, hv, hb, (hg.block g (Array.getElem?_eq_some_iff.1 hgg).1 ?_).trans hgg, rest⟩
    intro e
    obtain ⟨o, h1, h2⟩ := hr g e.symm
    rw [hgg] at h1
    cases h1
    cases h2
theorem own_below {A B : World} {base : Nat} {e : TypeId} {size n : Nat} {v : Value} {xs : List Value} (h : A.ownsRow base e size v n xs) (hb : Below A.heap.size A B) : B.ownsRow base e size v n xs := by
  refine ⟨h.1, ?_⟩
  rcases h.2 with hn | ⟨g, cap, cur, hv, hbb, hgg, rest⟩
  · exact .inl hn
  · exact .inr ⟨g, cap, cur, hv, hbb, (hb.block g (Array.getElem?_eq_some_iff.1 hgg).1).trans hgg, rest⟩
theorem own_lt {A : World} {base : Nat} {e : TypeId} {size n : Nat} {v : Value} {xs : List Value} (h : A.ownsRow base e size v n xs) {k : Nat} (hk : v.ownBlock = some k) : base ≤ k ∧ k < A.heap.size := by
  rcases h.2 with ⟨hv, _⟩ | ⟨g, cap, cur, hv, hb, hgg, rest⟩
  · rw [hv] at hk; cases hk
  · rw [hv] at hk; cases hk; exact ⟨hb, (Array.getElem?_eq_some_iff.1 hgg).1⟩
theorem dropD_cons_spare {o : Opx} {l : List Opx} (h : spareB (needN (dropD l)) o = true) : dropD (o :: l) = dropD l := by show (if _ then _ else _) = _; rw [if_pos h]
theorem dropD_cons_keep {o : Opx} {l : List Opx} (h : spareB (needN (dropD l)) o = false) : dropD (o :: l) = o :: dropD l := by show (if _ then _ else _) = _; rw [if_neg (by rw [h]; simp)]
theorem opL_snoc (l : List Opx) (o : Opx) : opL (l ++ [o]) = opL l ++ opC o := by simp [opL]
set_option maxRecDepth 100000 in
set_option maxHeartbeats 4000000 in
theorem withoutDead_any {w : World} {b off cap : Nat} {l : List Opx} (HC : Hid (OpsC w b off l)) (hbl : b < w.heap.size) (hl : l.length ≤ 1000000) (hOW : Hid (∀ o ∈ l, o.okW)) (hE : endL l) :
    Calls Tryz.prog 29 #[.slice (some ⟨b, off, none⟩) l.length cap] w fun e w' => ∃ g cap', e = .returned (.slice (some ⟨g, 0, none⟩) (dropD l).length cap') ∧ (dropD l).length ≤ cap' ∧ OpsRw w' g (dropD l) ∧ w.heap.size ≤ g ∧ Below w.heap.size w w' := by
  have HE : Hid (0 < (dropD l).length) := by
    obtain ⟨o, h1, h2⟩ := hE
    have := dropD_last h1 h2
    show 0 < _
    cases hd : dropD l with
    | nil => rw [hd] at this; cases this
    | cons x y => simp
  obtain ⟨i0, hi, iz0, iz1, iz2⟩ := info_parts infoOp
  clear hE
  refine (callsIn_wide (n := 4)).1 ?_
  refine callsIn_of_wp_marks Tryz.func29 rfl trivial ?_ rfl
  simp only [Tryz.ntmps29, List.size_toArray, List.length_cons, List.length_nil, Nat.reduceAdd, Nat.reduceSub, Array.replicate_succ, Array.replicate_zero, List.push_toArray, List.append_toArray, List.nil_append, List.cons_append]
  refine wpIn_wide.2 ?_
  have hnd : ((w.alloc (.cells #[.slice none 0 0] 23)).alloc (.cells (ndA fun _ => false) 94)).heap[w.heap.size + 1]? = some (.cells (ndA fun _ => false) 94 (0, 0)) := by
    have := heap_alloc_new (w.alloc (.cells #[.slice none 0 0] 23)) (.cells (ndA fun _ => false) 94)
    simpa using this
  have hst : (storeCells ⟨w.heap.size + 1, 0, none⟩ (ndA fun _ => false).toList).run Tryz.prog ((w.alloc (.cells #[.slice none 0 0] 23)).alloc (.cells (ndA fun _ => false) 94)) = .ok () (((w.alloc (.cells #[.slice none 0 0] 23)).alloc (.cells (ndA fun _ => false) 94)).setRow (w.heap.size + 1) (ndA fun _ => false)) := by
    have := run_storeCells_from (P := Tryz.prog) (w.heap.size + 1) 94 (ndA fun _ => false).toList 0 (ndA fun _ => false) _ hnd (by simp) (fun v hv => (Array.all_eq_true_iff_forall_mem.1 (ndA_one fun _ => false)) v (by simpa using hv))
    simpa using this
  have HND : Hid (_) := hnd
  clear hnd
  go_upto_region 3 with (first | (refine wpList_buildNd rfl rfl ?_) | (refine wpList_allocNd rfl rfl ?_))
  have N1 : NeedAt (((w.alloc (.cells #[.slice none 0 0] 23)).alloc (.cells (ndA fun _ => false) 94)).setRow (w.heap.size + 1) (ndA fun _ => false)) (w.heap.size + 1) (fun _ => false) := nd_row (setRow_heap _ _ _ _ _ _ HND.out)
  have G1 : Below w.heap.size w (((w.alloc (.cells #[.slice none 0 0] 23)).alloc (.cells (ndA fun _ => false) 94)).setRow (w.heap.size + 1) (ndA fun _ => false)) := below_setRow' (((Below.refl _ _).alloc (Nat.le_refl _) _).alloc (by simp) _) (by omega) _
  have C1 : RowIs (((w.alloc (.cells #[.slice none 0 0] 23)).alloc (.cells (ndA fun _ => false) 94)).setRow (w.heap.size + 1) (ndA fun _ => false)) w.heap.size 23 1 (fun _ => .slice none 0 0) := by
    refine ⟨#[.slice none 0 0], ?_, rfl, fun j hj => (by cases j with | zero => rfl | succ k => omega)⟩
    rw [setRow_other _ _ _ _ (by omega), Below.heap_alloc _ _ _ (by simp)]
    exact heap_alloc_new w _
  have hz2 : (((w.alloc (.cells #[.slice none 0 0] 23)).alloc (.cells (ndA fun _ => false) 94)).setRow (w.heap.size + 1) (ndA fun _ => false)).heap.size = w.heap.size + 2 := by simp [World.setRow]
  generalize ((w.alloc (.cells #[.slice none 0 0] 23)).alloc (.cells (ndA fun _ => false) 94)).setRow (w.heap.size + 1) (ndA fun _ => false) = V at *
  clear HND hst
  go_wp2_with (go_at_call 52; refine (callsIn_wide.1 (back_in Fence.wide 3 trivial rfl _ _ _ _)).mono ?_; rintro e w' ⟨rfl, rfl⟩)
  rename_i K0 hK0
  have HK0 : Hid (∀ (a : Act) (w : World), _ → K0 a w) := hK0
  clear hK0
  obtain ⟨p, hp⟩ := oqs_of l hOW.out
  have HP : Hid (oqs p = l) := hp
  have hpl : p.length ≤ 1000000 := by rw [← hp] at hl; simpa [oqs] using hl
  clear hp
  have bN := Boxed.new V 23 (.slice (some ⟨b, off, none⟩) l.length cap)
  rw [hz2] at bN
  have N2 : NeedAt (V.alloc (.cells #[.slice (some ⟨b, off, none⟩) l.length cap] 23)) (w.heap.size + 1) (fun _ => false) := RowIs.stays N1 ((Below.refl _ _).alloc (Nat.le_refl _) _)
  have C2 : RowIs (V.alloc (.cells #[.slice (some ⟨b, off, none⟩) l.length cap] 23)) w.heap.size 23 1 (fun _ => .slice none 0 0) := RowIs.stays C1 ((Below.refl _ _).alloc (Nat.le_refl _) _)
  have B2 : Below w.heap.size w (V.alloc (.cells #[.slice (some ⟨b, off, none⟩) l.length cap] 23)) := G1.alloc (by omega) _
  have hz3 : (V.alloc (.cells #[.slice (some ⟨b, off, none⟩) l.length cap] 23)).heap.size = w.heap.size + 3 := by simp [hz2]
  have hO : OpsC (V.alloc (.cells #[.slice (some ⟨b, off, none⟩) l.length cap] 23)) b off l := HC.out.block (B2.block b hbl)
  have hcS := bN.cell
  clear N1 C1 G1 bN
  generalize V.alloc (.cells #[.slice (some ⟨b, off, none⟩) l.length cap] 23) = U at *
  refine (wpIn_wide (n := 4)).1 ?_
  refine wpIn_rangeFunc_ownH (n := 4) rfl (by decide) (gf := 82) (lb := #[.pointer (some ⟨w.heap.size + 2, 0, none⟩)]) rfl trivial (enters_of Tryz.func82 (by kernel_rfl) rfl)
    (back_stops Fence.wide 3 trivial rfl (by decide) (w.heap.size + 2) (w.heap.size + 3) w.heap.size (w.heap.size + 1) b off cap p hpl U (by omega) (by omega) (by omega) (by omega) ⟨by omega, by omega, by omega, by omega⟩ l HP.out hcS hO) KpO.trans (KpO.put (by omega)) (Below.refl _ _) (fun _ => rfl)
    (fun pre W => DpAt (w.heap.size + 3) w.heap.size (w.heap.size + 1) W (cameL pre) ∧ Below w.heap.size w W ∧ w.heap.size + 3 ≤ W.heap.size)
    (fun c pre W => False)
    (OwnFrom.and (Own.from (fun s A B row hs hg hr => ⟨by obtain ⟨vk, h1, h2⟩ := hs.v; exact ⟨vk, row_kept h1 hg hr, own_kept h2 hg hr⟩, row_kept hs.nd hg hr⟩) _) (OwnFrom.and (ownFrom_below (Nat.le_refl _) (by omega)) (fun s A B row hs hg hr => Nat.le_trans hs hg.size)))
    (fun c => fun s A B row hs hg hr => hs)
    ⟨⟨⟨_, C2, World.ownsRow_nil _ _ _ _⟩, N2⟩, B2, by omega⟩
    (fun y a' W => ∃ Bx : Nat, w.heap.size + 3 ≤ Bx ∧ BoxO W Bx y.2.1 ∧ (∃ vk : Value, W.cell? ⟨w.heap.size, 0, none⟩ = some vk ∧ vk.ownBlock ≠ some Bx) ∧ a' = { tmps := #[.slice (some ⟨b, off, none⟩) l.length cap, undef, .slice none 0 0, .pointer (some ⟨w.heap.size, 0, none⟩), .pointer (some ⟨w.heap.size + 1, 0, none⟩), undef, .pointer (some ⟨Bx, 0, none⟩), .agg (ndA fun _ => false), .slice (some ⟨b, off, none⟩) l.length cap, .func (.func 82) #[] #[.pointer (some ⟨w.heap.size + 2, 0, none⟩)], .int .i64 (y.1 : Int), opV y.2.1, undef, undef, undef, undef, undef, undef, undef, undef, undef, undef, undef, undef], defers := [] })
    (fun y a' s A B row hs hg hr => by
      obtain ⟨Bx, h1, h2, ⟨vk, h3, h4⟩, h5⟩ := hs
      have hr' : ∀ r, row = some r → ∃ o : Obj, A.heap[r]? = some o ∧ o.isCells = false := fun r e => (hr r e).2
      exact ⟨Bx, h1, ⟨cell_kept h2.c0 hg hr', cell_kept h2.c1 hg hr', cell_kept h2.c2 hg hr', cell_kept h2.c3 hg hr', cell_kept h2.c4 hg hr', cell_kept h2.c5 hg hr'⟩, ⟨vk, cell_kept h3 hg hr', h4⟩, h5⟩) ?assign ?body ?done ?stop
  case assign =>
    rintro lp pre y W K hi' hK
    obtain ⟨⟨⟨vk, i1, i2⟩, i3⟩, i5, i6⟩ := hi'
    have hb := (Below.refl W.heap.size W).alloc (Nat.le_refl _) (.cells #[.string y.2.1.s, .int .i64 y.2.1.d, .int .i64 y.2.1.a, .int .i64 y.2.1.b, .int .u32 y.2.1.i, .int .i64 y.2.1.t] 60)
    have j1 := i1.stays hb
    have HJ : Hid (_ ∧ _ ∧ _) := ⟨own_below i2 hb, RowIs.stays i3 hb, j1⟩
    have hne : vk.ownBlock ≠ some W.heap.size := fun e => by have := (own_lt i2 e).2; omega
    unfold enO opV
    clear i1 i2 i3 j1
    gi_wp2
    exact hK _ _ ((KeepsOthers.alloc _ _).from _) (KpO.of_below hb i6) ⟨⟨⟨vk, HJ.out.2.2, HJ.out.1⟩, HJ.out.2.1⟩, i5.alloc (Nat.le_trans (Nat.le_refl _) i5.size) _, by simp; omega⟩ ⟨W.heap.size, i6, BoxO.new W y.2.1, ⟨vk, HJ.out.2.2.cell (j := 0) (by omega), hne⟩, rfl⟩
  case body =>
    rintro lo pre y a' W hl' ⟨r, hr⟩ ⟨⟨⟨vk, i1, i2⟩, i3⟩, i5, i6⟩ ⟨Bx, hBx, bx, ⟨vk', hvk, hne⟩, rfl⟩ hlt
    obtain rfl : vk = vk' := by have := i1.cell (j := 0) (by omega); rw [this] at hvk; exact Option.some.inj hvk
    have hbs : Bx < W.heap.size := bx.lt
    have BX : Hid (BoxO W Bx y.2.1) := bx
    obtain ⟨k0, k1, k2, k3, k4, k5⟩ := bx
    have hsp := spare_any i3 y.2.1 y.2.2.w0 y.2.2.w1
    have hdc : cameL (pre ++ [y]) = y.2.1 :: cameL pre := came_snoc pre y
    have HD1 : Hid (spareB (needN (dropD (cameL pre))) y.2.1 = true → dropD (cameL (pre ++ [y])) = dropD (cameL pre)) := fun h => by rw [hdc]; exact dropD_cons_spare h
    have HD2 : Hid (spareB (needN (dropD (cameL pre))) y.2.1 = false → dropD (cameL (pre ++ [y])) = y.2.1 :: dropD (cameL pre)) := fun h => by rw [hdc]; exact dropD_cons_keep h
    have hdl : (dropD (cameL pre)).length ≤ 1000000 := by
      have h1 := dropD_len (cameL pre)
      have h2 : (cameL pre).length = pre.length := by simp [cameL]
      omega
    have OKY : Hid y.2.1.okW := y.2.2
    generalize spareB (needN (dropD (cameL pre))) y.2.1 = sb at *
    have I1 : Hid (RowIs W w.heap.size 23 1 (fun _ => vk)) := i1
    have I2 : Hid (W.ownsRow (w.heap.size + 3) 60 6 vk (dropD (cameL pre)).length (opL (dropD (cameL pre)).reverse)) := i2
    have I3 : Hid (NeedAt W (w.heap.size + 1) (needN (dropD (cameL pre)))) := i3
    have I5 : Hid (Below w.heap.size w W) := i5
    have HNE : Hid (vk.ownBlock ≠ some Bx) := hne
    clear i1 i2 i3 i5 hdc hvk hne
    unfold opV at hsp ⊢
    gi_wp2_with fail
    refine ⟨trivial, ?_⟩
    refine (CallsIn.inRound lo (callsIn_wide.2 hsp)).mono ?_
    rintro e W1 ⟨rfl, hb1⟩
    have BX1 : Hid (BoxO W1 Bx y.2.1) := BX.out.block (hb1.block Bx hbs)
    have hbs1 : Bx < W1.heap.size := by have := hb1.size; omega
    have J1 : Hid (RowIs W1 w.heap.size 23 1 (fun _ => vk)) := I1.out.stays hb1
    have J2 : Hid (W1.ownsRow (w.heap.size + 3) 60 6 vk (dropD (cameL pre)).length (opL (dropD (cameL pre)).reverse)) := own_below I2.out hb1
    have J3 : Hid (NeedAt W1 (w.heap.size + 1) (needN (dropD (cameL pre)))) := RowIs.stays I3.out hb1
    have J5 : Hid (Below w.heap.size w W1) := I5.out.trans (hb1.mono I5.out.size)
    have J6 : w.heap.size + 3 ≤ W1.heap.size := by have := hb1.size; omega
    have JK : Hid (KpO (w.heap.size + 3) w.heap.size (w.heap.size + 1) W W1) := KpO.of_below hb1 i6
    have JF : Hid (KeepsFrom U.heap.size W W1) := KeepsFrom.of_grownBy (row := none) ⟨hb1.os, hb1.tape, hb1.output, hb1.size, fun k hk _ => hb1.block k hk⟩ (by simp)
    clear hsp hb1 I1 I2 I3 I5 k0 k1 k2 k3 k4 k5
    cases sb with
    | true =>
      have HD : Hid (dropD (cameL (pre ++ [y])) = dropD (cameL pre)) := HD1.out rfl
      clear HD1 HD2
      gi_wp2
      refine ⟨JF.out, JK.out, ⟨⟨vk, J1.out, ?_⟩, ?_⟩, J5.out, J6⟩
      · rw [HD.out]; exact J2.out
      · rw [HD.out]; exact J3.out
    | false =>
      obtain ⟨k0, k1, k2, k3, k4, k5⟩ := BX1.out
      have c1 := J1.out.cell (j := 0) (by omega)
      have f1 := J1.out.fz 0
      have hzk : w.heap.size < W1.heap.size := by omega
      have hnews : ∀ (j : Nat) (u : Value), (opC y.2.1)[j]? = some u → (W1.alloc (.cells #[.string y.2.1.s, .int .i64 y.2.1.d, .int .i64 y.2.1.a, .int .i64 y.2.1.b, .int .u32 y.2.1.i, .int .i64 y.2.1.t] 60)).cell? ((⟨W1.heap.size, 0, none⟩ : Addr).add j) = some u := by
        intro j u hj
        rw [add_lit, cell_of_row _ _ _ _ _ _ (heap_alloc_new W1 _)]
        simpa [opC] using hj
      have HD : Hid (dropD (cameL (pre ++ [y])) = y.2.1 :: dropD (cameL pre)) := HD2.out rfl
      clear HD1 HD2
      have HKB : Hid (∀ w3 : World, (W1.alloc (.cells #[.string y.2.1.s, .int .i64 y.2.1.d, .int .i64 y.2.1.a, .int .i64 y.2.1.b, .int .u32 y.2.1.i, .int .i64 y.2.1.t] 60)).grownBy w3 vk.ownBlock → w3.heap[w.heap.size]? = W1.heap[w.heap.size]? ∧ w3.heap[Bx]? = W1.heap[Bx]? ∧ w3.heap[w.heap.size + 1]? = W1.heap[w.heap.size + 1]?) := by
        intro w3 hg
        have hne2 : ∀ k, vk.ownBlock = some k → w.heap.size + 3 ≤ k := fun k e => (own_lt J2.out e).1
        refine ⟨(hg.block _ (by simp; omega) (fun e => by have := hne2 _ e.symm; omega)).trans (Below.heap_alloc _ _ _ (by omega)), (hg.block _ (by simp; omega) (fun e => HNE.out e.symm)).trans (Below.heap_alloc _ _ _ (by omega)), (hg.block _ (by simp; omega) (fun e => by have := hne2 _ e.symm; omega)).trans (Below.heap_alloc _ _ _ (by omega))⟩
      gi_wp2_with (gi_at_builtin; refine wpListIn_append_own _ rfl _ _ 23 rfl (w.heap.size + 3) 60 i0 _ 6 56 Tryz.underlying23 hi iz0 iz1 iz2 rfl (by decide) vk (dropD (cameL pre)).length (opL (dropD (cameL pre)).reverse) rfl (J2.out.alloc _) ⟨W1.heap.size, 0, none⟩ 1 1 (opC y.2.1) rfl rfl hnews (by simp [opC, Value.oneCell']) (by unfold maxLen; omega) (by omega) (by simp; omega) ?_; intro v' w3 ho hg hm; obtain ⟨g', cap', rfl⟩ := own_pos ho; obtain ⟨q1, q2, q3⟩ := HKB.out w3 hg; have c3 := (World.cell?_of_block (a := ⟨w.heap.size, 0, none⟩) q1).trans c1; have f3 := (World.frozen?_of_block (a := ⟨w.heap.size, 0, none⟩) q1).trans f1; obtain ⟨m0, m1, m2, m3, m4, m5⟩ := BX1.out.block q2; have hz3 : W1.heap.size ≤ w3.heap.size := (by have := hg.size; simp at this; omega))
      have HO : Hid (w3.ownsRow (w.heap.size + 3) 60 6 (.slice (some ⟨g', 0, none⟩) ((dropD (cameL pre)).length + 1) cap') ((dropD (cameL pre)).length + 1) (opL (dropD (cameL pre)).reverse ++ opC y.2.1)) := ho
      have hne2 : Hid (∀ k, vk.ownBlock = some k → w.heap.size + 3 ≤ k) := fun k e => (own_lt J2.out e).1
      have R4 : Hid (RowIs (w3.setCell ⟨w.heap.size, 0, none⟩ (.slice (some ⟨g', 0, none⟩) ((dropD (cameL pre)).length + 1) cap')) w.heap.size 23 1 (fun _ => .slice (some ⟨g', 0, none⟩) ((dropD (cameL pre)).length + 1) cap')) := (RowIs.block J1.out q1).put 0 _ _ rfl (fun j hj hn => by omega)
      have N4 : Hid (NeedAt (w3.setCell ⟨w.heap.size, 0, none⟩ (.slice (some ⟨g', 0, none⟩) ((dropD (cameL pre)).length + 1) cap')) (w.heap.size + 1) (needN (dropD (cameL pre)))) := RowIs.block J3.out ((Below.heap_setCell w3 ⟨w.heap.size, 0, none⟩ _ (w.heap.size + 1) (by show w.heap.size + 1 ≠ w.heap.size; omega)).trans q3)
      have O4 : Hid ((w3.setCell ⟨w.heap.size, 0, none⟩ (.slice (some ⟨g', 0, none⟩) ((dropD (cameL pre)).length + 1) cap')).ownsRow (w.heap.size + 3) 60 6 (.slice (some ⟨g', 0, none⟩) ((dropD (cameL pre)).length + 1) cap') ((dropD (cameL pre)).length + 1) (opL (dropD (cameL pre)).reverse ++ opC y.2.1)) := owns_blocks HO.out (fun k hk => Below.heap_setCell w3 ⟨w.heap.size, 0, none⟩ _ k (by have := (own_lt HO.out hk).1; show k ≠ w.heap.size; omega))
      have K4 : Hid (KpO (w.heap.size + 3) w.heap.size (w.heap.size + 1) W (w3.setCell ⟨w.heap.size, 0, none⟩ (.slice (some ⟨g', 0, none⟩) ((dropD (cameL pre)).length + 1) cap'))) := by
        refine JK.out.trans (KpO.trans (KpO.trans (KpO.of_below ((Below.refl _ W1).alloc (Nat.le_refl _) _) J6) ⟨hg.os, hg.tape, hg.output, hg.size, fun k hk _ _ => hg.block k (by simp; omega) (fun e => by have := hne2.out k e.symm; omega)⟩) (KpO.of_grown (b := w.heap.size) (grown_set (w := w3) ⟨w.heap.size, 0, none⟩ _) (by omega) (.inl rfl)))
      have F4 : Hid (KeepsFrom U.heap.size W (w3.setCell ⟨w.heap.size, 0, none⟩ (.slice (some ⟨g', 0, none⟩) ((dropD (cameL pre)).length + 1) cap'))) := by
        refine JF.out.trans (((KeepsOthers.alloc W1 _).trans ((KeepsOthers.of_grownBy hg (fun j o e ho' => ?_)).trans (KeepsOthers.setCell w3 ⟨w.heap.size, 0, none⟩ _))).from _)
        rcases (J2.out.alloc (.cells #[.string y.2.1.s, .int .i64 y.2.1.d, .int .i64 y.2.1.a, .int .i64 y.2.1.b, .int .u32 y.2.1.i, .int .i64 y.2.1.t] 60)).2 with ⟨hv, _⟩ | ⟨g, cp, cur, hv, _, hgg, _⟩
        · rw [hv] at e; cases e
        · rw [hv] at e; cases e; rw [hgg] at ho'; cases ho'; rfl
      have B4 : Hid (Below w.heap.size w (w3.setCell ⟨w.heap.size, 0, none⟩ (.slice (some ⟨g', 0, none⟩) ((dropD (cameL pre)).length + 1) cap'))) := ((J5.out.alloc (by omega) _).grown hg (by simp; omega) (fun k e => by have := hne2.out k e; omega)).setCell (p := ⟨w.heap.size, 0, none⟩) (Nat.le_refl _) _
      have Z4 : w.heap.size + 3 ≤ (w3.setCell ⟨w.heap.size, 0, none⟩ (.slice (some ⟨g', 0, none⟩) ((dropD (cameL pre)).length + 1) cap')).heap.size := by simp [World.setCell]; omega
      clear J1 J2 J3 J5 JK JF ho hg hm q1 q2 q3 c3 f3 m0 m1 m2 m3 m4 m5 HKB HNE hne2 BX1 BX c1 f1 hnews k0 k1 k2 k3 k4 k5 HO
      generalize w3.setCell ⟨w.heap.size, 0, none⟩ (.slice (some ⟨g', 0, none⟩) ((dropD (cameL pre)).length + 1) cap') = W4 at *
      refine ⟨trivial, ?_⟩
      refine (CallsIn.inRound lo (callsIn_wide.2 (pass_any N4.out y.2.1 OKY.out.w0 OKY.out.w1 OKY.out.r))).mono ?_
      rintro e W5 ⟨rfl, hN5, hg5⟩
      have R5 := RowIs.block R4.out (hg5.block w.heap.size (RowIs.lt R4.out) (by intro e; have := Option.some.inj e; omega))
      have O5 := owns_blocks O4.out (fun k hk => hg5.block k (own_lt O4.out hk).2 (by intro e; have := Option.some.inj e; have := (own_lt O4.out hk).1; omega))
      have F5 := F4.out.trans (KeepsFrom.of_grownBy (B := U.heap.size) hg5 (fun j e => by have := Option.some.inj e; omega))
      have K5 := K4.out.trans (KpO.of_grown hg5 Z4 (.inr (.inl rfl)))
      have B5 := below_of_grown B4.out hg5 (Nat.le_refl _) (by omega)
      have Z5 := Nat.le_trans Z4 hg5.size
      have H5 : Hid (_ ∧ _ ∧ _) := ⟨R5, O5, hN5⟩
      clear R5 O5 hN5 hg5
      gi_wp2
      refine ⟨F5, K5, ⟨⟨_, H5.out.1, ?_⟩, ?_⟩, B5, Z5⟩
      · rw [HD.out, List.reverse_cons, opL_snoc]; exact H5.out.2.1
      · rw [HD.out]; exact H5.out.2.2
  case done =>
    rintro D ys W hD rfl ⟨⟨⟨vk, h1, h2⟩, h3⟩, hB, hS⟩ hK
    rw [came_all, HP.out] at h2
    obtain ⟨n, hn⟩ : ∃ n, (dropD l).length = n + 1 := ⟨(dropD l).length - 1, by have := HE.out; omega⟩
    have h2' := h2
    rw [hn] at h2'
    obtain ⟨g, cap', hv, hge⟩ := own_posg h2'
    rw [← hn] at hv
    subst hv
    have hcp : (dropD l).length ≤ cap' := by
      rcases h2.2 with ⟨hv, _⟩ | ⟨_, _, _, hv, _, _, r1, _⟩
      · cases hv
      · cases hv; exact r1
    have hll : (dropD l).length ≤ 1000000 := Nat.le_trans (dropD_len l) hl
    have hR : OpsRw W g (dropD l).reverse := rw_of_row (n := (dropD l).length) (cap := cap') (base := w.heap.size + 3) (by rw [List.length_reverse]; exact h2)
    have hrv := reverse_any (cap := cap') hR (by rw [List.length_reverse]; omega) (by rw [List.length_reverse]; exact hcp)
    rw [List.length_reverse, List.reverse_reverse] at hrv
    have hDg : D ≠ g := by
      intro e
      subst e
      rcases h2.2 with ⟨hv, _⟩ | ⟨_, _, _, hv, _, hgg, _⟩
      · cases hv
      · cases hv; rw [hK] at hgg; cases hgg
    have c1 := h1.cell (j := 0) (by omega)
    have H1 : Hid (RowIs W w.heap.size 23 1 (fun _ => .slice (some ⟨g, 0, none⟩) (dropD l).length cap')) := h1
    have HBb : Hid (Below w.heap.size w W) := hB
    have HKD : Hid (W.heap[D]? = some (.deferred (some []))) := hK
    clear h1 h2 h2' h3 hB hK hR hn
    refine HK0.out _ _ ?_
    refine (wpIn_wide (n := 4)).1 ?_
    gi_wp2_with fail
    refine ⟨trivial, ?_⟩
    refine (callsIn_wide.2 hrv).mono ?_
    rintro e W5 ⟨rfl, hR5, hg5⟩
    have H5 := RowIs.block H1.out (hg5.block w.heap.size (RowIs.lt H1.out) (by intro e; have := Option.some.inj e; omega))
    have c5 := H5.cell (j := 0) (by omega)
    have hK5 : W5.heap[D]? = some (.deferred (some [])) := (hg5.block D (Array.getElem?_eq_some_iff.1 HKD.out).1 (by intro e; exact hDg (Option.some.inj e))).trans HKD.out
    have B5 := below_of_grown HBb.out hg5 (Nat.le_refl _) (by omega)
    have HR5 : Hid (OpsRw W5 g (dropD l)) := hR5
    clear hrv hR5 hg5 c1 H5
    gi_wp2
    refine ⟨by simp, .inl ⟨_, _, rfl, run_takeDeferred hK5, ?_⟩⟩
    refine ⟨.slice (some ⟨g, 0, none⟩) (dropD l).length cap', ?_, ⟨g, cap', rfl, hcp, HR5.out.block ((grownBy_putObj' W5 D (.deferred none)).block g (HR5.out.lt HE.out) (by intro e; exact hDg (Option.some.inj e).symm)), by omega, B5.trans (belowK_b (w := w) (Nat.le_refl _) W5 D _ _ (by omega) hK5 rfl rfl)⟩⟩
    simp [results, Tryz.f29, go_sem]
  case stop =>
    rintro D c pre W hD ⟨k, hk, rfl⟩ hF hK
    exact hF.elim
end Go.Proofs.YtphdginikmmnmaaGreatDoor
