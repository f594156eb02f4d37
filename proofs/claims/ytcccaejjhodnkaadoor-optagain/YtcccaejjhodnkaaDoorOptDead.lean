/-
  Package opt: Dead.
-/
import Derived.Test.YtcccaejjhodnkaaDoorBack
import Derived.Laws.Tables
namespace Go.Proofs.YtcccaejjhodnkaaDoor
open Go.RowKit Go.Maps Go.Shelf
open Num
set_option linter.unusedVariables false
attribute [local go_sem] Oper.semAt_some
set_option maxRecDepth 100000 in
set_option maxHeartbeats 4000000 in
theorem dead_bad (pe : Nat → Addr) {w : World} (E : Eg pe w) {v : Value} {l : List Opx} (A : OpsIn w v l) (hl : (l.length : Int) ≤ 1000000) (pc many : Int) (m0 : -9223372036854775808 ≤ many) (m1 : many ≤ 9223372036854775807) (hf : codeF many l ≠ (0, -1)) :
    Calls Tryd.prog 23 #[.agg #[.int .u32 pc, .int .i64 many, v]] w fun e w' => e = .returned (.int .i64 0) ∧ Below w.heap.size w w' := by
  have hB0 : Below w.heap.size w (w.alloc (.cells #[.int .u32 pc, .int .i64 many, v] 35)) := (Below.refl _ _).alloc (Nat.le_refl _) _
  have hck := check_bad pe (E.stays hB0) (A.stays hB0) hl pc many m0 m1 hf
  obtain ⟨ao, cap, rfl, _⟩ := A.sh
  clear E A hf
  go_enter Tryd.func23, Tryd.ntmps23
  go_wp2_with fail
  refine hck.mono ?_
  rintro e w1 ⟨⟨t, p, rfl, _⟩, hb1⟩
  have HB : Hid (Below w.heap.size w w1) := hB0.trans (hb1.mono (by simp))
  clear hck hb1
  go_wp2
  go_ret
  exact ⟨rfl, HB.out⟩
/-- what nobody asks for -/
def ndA (n : Nx) : Array Value := ((List.range 64).map fun (j : Nat) => Value.bool (n j)).toArray
theorem ndA_size (n : Nx) : (ndA n).size = 64 := by simp [ndA]
theorem ndA_one (n : Nx) : (ndA n).all (·.oneCell') = true := by
  rw [Array.all_eq_true_iff_forall_mem]
  intro x hx
  simp only [ndA, List.mem_toArray, List.mem_map] at hx
  obtain ⟨i, _, rfl⟩ := hx
  rfl
theorem nd_row {w : World} {b : Nat} {n : Nx} (h : w.heap[b]? = some (.cells (ndA n) 113 (0, 0))) : NeedAt w b n :=
  ⟨_, h, ndA_size n, fun j hj => by unfold ndA; rw [List.getElem?_toArray, List.getElem?_map, List.getElem?_range hj]; rfl⟩
theorem nd_built : Tryd.prog.built 113 [] = some (ndA fun _ => false) := by kernel_rfl
theorem nd_zero (w : World) : (zeroValue 113).run Tryd.prog w = .ok (.agg (ndA fun _ => false)) w := by kernel_rfl
theorem setRow_other (w : World) (b k : Nat) (cs : Array Value) (h : k ≠ b) : (w.setRow b cs).heap[k]? = w.heap[k]? := by
  unfold World.setRow
  simp only
  rw [Array.getElem?_modify]
  rw [if_neg (by omega)]
theorem below_setRow' {B : Nat} {w w' : World} {b : Nat} (h : Below B w w') (hb : B ≤ b) (cs : Array Value) : Below B w (w'.setRow b cs) :=
  h.trans ⟨rfl, rfl, rfl, by simp [World.setRow], fun k hk => setRow_other _ _ _ _ (by omega)⟩
section
variable {ops : Array Oper} {rest : List Oper} {o : Oper} {a : Act} {w : World} {Q : Exit → Act → World → Prop}
theorem wpList_buildNd (hg : o.guard = none) (ho : o.op = .build 113 #[]) (h : wpList Tryd.prog ops Q rest (a.put o.dst (.agg (ndA fun _ => false))) w) : wpList Tryd.prog ops Q (o :: rest) a w := by
  have e : Tryd.prog.built 113 (Array.map (fun ((i, x) : Nat × Operand) => (i, a.eval x)) #[]).toList = some (ndA fun _ => false) := by simpa using nd_built
  refine wpList_build hg 113 #[] ho (by rw [e]; rfl) ?_
  rw [e]; exact h
theorem wpList_allocNd (hg : o.guard = none) (hop : o.op = Op.alloc 113)
    (h : wpList Tryd.prog ops Q rest (a.put o.dst (.pointer (some ⟨w.heap.size, 0, none⟩))) (w.alloc (.cells (ndA fun _ => false) 113))) : wpList Tryd.prog ops Q (o :: rest) a w := by
  refine wpList_plain hg fun K hK => ?_
  unfold Oper.wp
  have e : (execOp a.eval o).run Tryd.prog w = .ok (.value (.pointer (some ⟨w.heap.size, 0, none⟩))) (w.alloc (.cells (ndA fun _ => false) 113)) := by
    unfold execOp; rw [hop]
    simp only [Instr.alloc, newVar, newRow, Sem.run_bind, nd_zero, Result.andThen_ok]
    rfl
  rw [e, Oper.upon_value]
  exact hK _ _ h
theorem wpList_storeNd (hgd : o.guard = none) (x y : Operand) (ho : o.op = .store 113 x y) (b : Nat) (n n' : Nx) (hx : a.eval x = .pointer (some ⟨b, 0, none⟩)) (hy : a.eval y = .agg (ndA n)) (hb : w.heap[b]? = some (.cells (ndA n') 113 (0, 0)))
    (h : wpList Tryd.prog ops Q rest (a.put o.dst undef) (w.setRow b (ndA n))) : wpList Tryd.prog ops Q (o :: rest) a w :=
  wpList_store_row hgd 113 x y ho b (ndA n) hx hy 113 (ndA n') hb (by rw [ndA_size]; kernel_rfl) (by rw [ndA_size, ndA_size]) (ndA_one n) h
end
theorem deadC_le : ∀ l : List Opx, deadC l ≤ l.length
  | [] => Nat.le_refl _
  | o :: l => by
    show (if spareB (needN l) o = true then 1 else 0) + deadC l ≤ l.length + 1
    have := deadC_le l
    split <;> omega
theorem okW_of {o : Opx} {many : Int} (h : opE o many = 0) (ok : o.ok) : o.okW := by
  obtain ⟨hk, hb, _⟩ := opE_zero.1 h
  have hl := kn_lt o.s
  unfold bndB at hb
  simp only [Bool.and_eq_true] at hb
  obtain ⟨⟨⟨⟨b1, b2⟩, b3⟩, _⟩, _⟩ := hb
  have hd : rD o.k = 2 → 1 ≤ o.d ∧ o.d < 64 := fun e => by rw [e] at b1; unfold alw at b1; simpa using b1
  have ha : rA o.k = 1 → 0 ≤ o.a ∧ o.a < 64 := fun e => by rw [e] at b2; unfold alw at b2; simpa using b2
  have hbb : rB o.k = 1 → 0 ≤ o.b ∧ o.b < 64 := fun e => by rw [e] at b3; unfold alw at b3; simpa using b3
  refine ⟨?_, ?_, fun x hx => ?_, ok⟩
  · unfold wrX; split
    · rename_i e; have := hd e; omega
    · omega
  · unfold wrX; split
    · rename_i e; have := hd e; omega
    · omega
  · unfold rdX at hx
    simp only [List.mem_append] at hx
    rcases hx with (hx | hx) | hx
    · split at hx
      · rename_i e; rw [List.mem_singleton] at hx; rw [hx]; exact ha e
      · cases hx
    · split at hx
      · rename_i e; rw [List.mem_singleton] at hx; rw [hx]; exact hbb e
      · cases hx
    · split at hx
      · rename_i e
        rw [List.mem_singleton] at hx
        have h17 : 17 ≤ o.k ∧ o.k ≤ 20 := by unfold dvB at e; simpa using e
        have := hd (by unfold rD; rw [if_pos (by omega)])
        rw [hx]; omega
      · cases hx
set_option maxRecDepth 100000 in
set_option maxHeartbeats 4000000 in
theorem dead_ok (pe : Nat → Addr) {w : World} (E : Eg pe w) {v : Value} {l : List Opx} (A : OpsIn w v l) (hl : l.length ≤ 1000000) (pc many : Int) (m0 : -9223372036854775808 ≤ many) (m1 : many ≤ 9223372036854775807) (hf : codeF many l = (0, -1)) :
    Calls Tryd.prog 23 #[.agg #[.int .u32 pc, .int .i64 many, v]] w fun e w' => e = .returned (.int .i64 (deadC l)) ∧ Below w.heap.size w w' := by
  have hB0 : Below w.heap.size w (w.alloc (.cells #[.int .u32 pc, .int .i64 many, v] 35)) := (Below.refl _ _).alloc (Nat.le_refl _) _
  have hck := check_ok pe (E.stays hB0) (A.stays hB0) (by omega) pc many m0 m1 hf
  have W0 := codeF_well.1 hf
  have hpos : 0 < l.length := List.length_pos_iff.2 W0.ne
  obtain ⟨ao, cap, rfl, hc, hh⟩ := A.sh
  obtain ⟨b, off, rfl, hcell⟩ := hh hpos
  have hbl : b < w.heap.size := World.block_lt_of_cell? _ _ (hcell 0 _ (List.getElem?_eq_getElem hpos) 0 _ rfl)
  have HC : Hid (OpsC w b off l) := hcell
  have hOW : Hid (∀ o ∈ l, o.okW) := fun o ho => okW_of (wellL_mem W0.ops o ho) (A.ok o ho)
  clear E hf hh hcell W0 A
  refine (callsIn_wide (n := 4)).1 ?_
  refine callsIn_of_wp_marks Tryd.func23 rfl trivial ?_ rfl
  simp only [Tryd.ntmps23, List.size_toArray, List.length_cons, List.length_nil, Nat.reduceAdd, Nat.reduceSub, Array.replicate_succ, Array.replicate_zero, List.push_toArray, List.append_toArray, List.nil_append, List.cons_append]
  refine wpIn_wide.2 ?_
  go_wp2_with fail
  refine hck.mono ?_
  rintro e w1 ⟨rfl, hb1⟩
  obtain ⟨c, hfz⟩ := bcell6 hb1
  have k2 : w1.cell? ⟨w.heap.size, 2, none⟩ = some (.slice (some ⟨b, off, none⟩) l.length cap) := by rw [c]; simp
  have HB1 : Hid (Below w.heap.size w w1) := hB0.trans (hb1.mono (by simp))
  have hz1 : w.heap.size < w1.heap.size := by have := hb1.size; simp at this; omega
  clear hck hb1 c hfz hB0
  have hnd : ((w1.alloc (.cells #[.int .i64 0] 3)).alloc (.cells (ndA fun _ => false) 113)).heap[w1.heap.size + 1]? = some (.cells (ndA fun _ => false) 113 (0, 0)) := by
    have := heap_alloc_new (w1.alloc (.cells #[.int .i64 0] 3)) (.cells (ndA fun _ => false) 113)
    simpa using this
  go_upto_region 4 with (first | (refine wpList_buildNd rfl rfl ?_) | (refine wpList_allocNd rfl rfl ?_) | (refine wpList_storeNd rfl _ _ rfl (w1.heap.size + 1) (fun _ => false) (fun _ => false) rfl rfl hnd ?_))
  have N1 : NeedAt (((w1.alloc (.cells #[.int .i64 0] 3)).alloc (.cells (ndA fun _ => false) 113)).setRow (w1.heap.size + 1) (ndA fun _ => false)) (w1.heap.size + 1) (fun _ => false) := nd_row (setRow_heap _ _ _ _ _ _ hnd)
  have G1 : Below w1.heap.size w1 (((w1.alloc (.cells #[.int .i64 0] 3)).alloc (.cells (ndA fun _ => false) 113)).setRow (w1.heap.size + 1) (ndA fun _ => false)) := below_setRow' (((Below.refl _ _).alloc (Nat.le_refl _) _).alloc (by simp) _) (by omega) _
  have C1 : RowIs (((w1.alloc (.cells #[.int .i64 0] 3)).alloc (.cells (ndA fun _ => false) 113)).setRow (w1.heap.size + 1) (ndA fun _ => false)) w1.heap.size 3 1 (fun _ => .int .i64 0) := by
    refine ⟨#[.int .i64 0], ?_, rfl, fun j hj => (by cases j with | zero => rfl | succ k => omega)⟩
    rw [setRow_other _ _ _ _ (by omega), Below.heap_alloc _ _ _ (by simp)]
    exact heap_alloc_new w1 _
  have hz2 : (((w1.alloc (.cells #[.int .i64 0] 3)).alloc (.cells (ndA fun _ => false) 113)).setRow (w1.heap.size + 1) (ndA fun _ => false)).heap.size = w1.heap.size + 2 := by simp [World.setRow]
  generalize ((w1.alloc (.cells #[.int .i64 0] 3)).alloc (.cells (ndA fun _ => false) 113)).setRow (w1.heap.size + 1) (ndA fun _ => false) = V at *
  have kV : V.cell? ⟨w.heap.size, 2, none⟩ = some (.slice (some ⟨b, off, none⟩) l.length cap) := (G1.cell (p := ⟨w.heap.size, 2, none⟩) hz1).trans k2
  have hzV : w.heap.size < V.heap.size := by omega
  clear hnd k2
  go_wp2_with (go_at_call 57; refine (callsIn_wide.1 (back_in Fence.wide 3 trivial rfl _ _ _ _)).mono ?_; rintro e w' ⟨rfl, rfl⟩)
  rename_i K0 hK0
  have HK0 : Hid (∀ (a : Act) (w : World), _ → K0 a w) := hK0
  clear hK0
  obtain ⟨p, hp⟩ := oqs_of l hOW.out
  have HP : Hid (oqs p = l) := hp
  have hpl : p.length ≤ 1000000 := by rw [← hp] at hl; simpa [oqs] using hl
  clear hp
  have bN := Boxed.new V 22 (.slice (some ⟨b, off, none⟩) l.length cap)
  rw [hz2] at bN
  have N2 : NeedAt (V.alloc (.cells #[.slice (some ⟨b, off, none⟩) l.length cap] 22)) (w1.heap.size + 1) (fun _ => false) := RowIs.stays N1 ((Below.refl _ _).alloc (Nat.le_refl _) _)
  have C2 : RowIs (V.alloc (.cells #[.slice (some ⟨b, off, none⟩) l.length cap] 22)) w1.heap.size 3 1 (fun _ => .int .i64 0) := RowIs.stays C1 ((Below.refl _ _).alloc (Nat.le_refl _) _)
  have B2 : Below w.heap.size w (V.alloc (.cells #[.slice (some ⟨b, off, none⟩) l.length cap] 22)) := (HB1.out.trans (G1.mono (by omega))).alloc (by omega) _
  have hz3 : (V.alloc (.cells #[.slice (some ⟨b, off, none⟩) l.length cap] 22)).heap.size = w1.heap.size + 3 := by simp [hz2]
  have hO : OpsC (V.alloc (.cells #[.slice (some ⟨b, off, none⟩) l.length cap] 22)) b off l := HC.out.block (B2.block b hbl)
  have hcS := bN.cell
  clear N1 C1 G1 kV hzV bN HB1
  generalize V.alloc (.cells #[.slice (some ⟨b, off, none⟩) l.length cap] 22) = U at *
  refine (wpIn_wide (n := 4)).1 ?_
  refine wpIn_rangeFunc_ownH (n := 4) rfl (by decide) (gf := 91) (lb := #[.pointer (some ⟨w1.heap.size + 2, 0, none⟩)]) rfl trivial (enters_of Tryd.func91 (by kernel_rfl) rfl)
    (back_stops Fence.wide 3 trivial rfl (by decide) (w1.heap.size + 2) (w1.heap.size + 3) w1.heap.size (w1.heap.size + 1) b off cap p hpl U (by omega) (by omega) (by omega) (by omega) ⟨by omega, by omega, by omega, by omega⟩ l HP.out hcS hO) KpO.trans (KpO.put (by omega)) (Below.refl _ _) (fun _ => rfl)
    (fun pre W => (RowIs W w1.heap.size 3 1 (fun _ => .int .i64 (deadC (cameL pre))) ∧ NeedAt W (w1.heap.size + 1) (needN (cameL pre))) ∧ Below w.heap.size w W ∧ w1.heap.size + 3 ≤ W.heap.size)
    (fun c pre W => False)
    (OwnFrom.and (Own.from (fun s A B row hs hg hr => ⟨row_kept hs.1 hg hr, row_kept hs.2 hg hr⟩) _) (OwnFrom.and (ownFrom_below (Nat.le_refl _) (by omega)) (fun s A B row hs hg hr => Nat.le_trans hs hg.size)))
    (fun c => fun s A B row hs hg hr => hs)
    ⟨⟨C2, N2⟩, B2, by omega⟩
    (fun y a' W => ∃ Bx : Nat, w1.heap.size + 3 ≤ Bx ∧ BoxO W Bx y.2.1 ∧ a' = { tmps := #[.agg #[.int .u32 pc, .int .i64 many, .slice (some ⟨b, off, none⟩) l.length cap], .pointer (some ⟨w.heap.size, 0, none⟩), .int .i64 0, .pointer (some ⟨w1.heap.size, 0, none⟩), .pointer (some ⟨w1.heap.size + 1, 0, none⟩), undef, .pointer (some ⟨Bx, 0, none⟩), .agg #[.int .u32 pc, .int .i64 many, .slice (some ⟨b, off, none⟩) l.length cap], .nilIface, .bool false, .agg (ndA fun _ => false), .pointer (some ⟨w.heap.size, 2, none⟩), .slice (some ⟨b, off, none⟩) l.length cap, .func (.func 91) #[] #[.pointer (some ⟨w1.heap.size + 2, 0, none⟩)], .int .i64 (y.1 : Int), opV y.2.1, undef, undef, undef, undef, undef, undef, undef], defers := [] })
    (fun y a' s A B row hs hg hr => by
      obtain ⟨Bx, h1, h2, h5⟩ := hs
      have hr' : ∀ r, row = some r → ∃ o : Obj, A.heap[r]? = some o ∧ o.isCells = false := fun r e => (hr r e).2
      exact ⟨Bx, h1, ⟨cell_kept h2.c0 hg hr', cell_kept h2.c1 hg hr', cell_kept h2.c2 hg hr', cell_kept h2.c3 hg hr', cell_kept h2.c4 hg hr', cell_kept h2.c5 hg hr'⟩, h5⟩) ?assign ?body ?done ?stop
  case assign =>
    rintro lp pre y W K hi hK
    unfold enO opV
    gi_wp2
    refine hK _ _ ((KeepsOthers.alloc _ _).from _) (KpO.of_below ((Below.refl _ W).alloc (Nat.le_refl _) _) hi.2.2) ?_ ⟨W.heap.size, hi.2.2, BoxO.new W y.2.1, rfl⟩
    obtain ⟨⟨i1, i2⟩, i5, i6⟩ := hi
    have hb := (Below.refl W.heap.size W).alloc (Nat.le_refl _) (.cells #[.string y.2.1.s, .int .i64 y.2.1.d, .int .i64 y.2.1.a, .int .i64 y.2.1.b, .int .u32 y.2.1.i, .int .i64 y.2.1.t] 60)
    exact ⟨⟨RowIs.stays i1 hb, RowIs.stays i2 hb⟩, i5.alloc (Nat.le_trans (Nat.le_refl _) i5.size) _, by simp; omega⟩
  case body =>
    rintro lo pre y a' W hl ⟨r, hr⟩ ⟨⟨i1, i2⟩, i5, i6⟩ ⟨Bx, hBx, bx, rfl⟩ hlt
    have hbs : Bx < W.heap.size := bx.lt
    obtain ⟨k0, k1, k2, k3, k4, k5⟩ := bx
    have hsp := spare_any i2 y.2.1 y.2.2.w0 y.2.2.w1
    have hdc : cameL (pre ++ [y]) = y.2.1 :: cameL pre := came_snoc pre y
    have HD : Hid (deadC (cameL (pre ++ [y])) = (if spareB (needN (cameL pre)) y.2.1 = true then 1 else 0) + deadC (cameL pre)) := by show _ = _; rw [hdc]; rfl
    have HN : Hid (needN (cameL (pre ++ [y])) = passN (needN (cameL pre)) y.2.1) := by show _ = _; rw [hdc]; rfl
    have hdl : Hid (deadC (cameL pre) ≤ 1000000) := by
      show _ ≤ _
      have := deadC_le (cameL pre)
      have h2 : (cameL pre).length = pre.length := by simp [cameL]
      omega
    have c1 := i1.cell (j := 0) (by omega)
    have f1 := i1.fz 0
    have hdl' := hdl.out
    have OKY : Hid y.2.1.okW := y.2.2
    generalize spareB (needN (cameL pre)) y.2.1 = sb at *
    generalize hdn : deadC (cameL pre) = dn at *
    have I1 : Hid (RowIs W w1.heap.size 3 1 (fun _ => .int .i64 (dn : Int))) := i1
    have I2 : Hid (NeedAt W (w1.heap.size + 1) (needN (cameL pre))) := i2
    have I5 : Hid (Below w.heap.size w W) := i5
    clear i1 i2 i5 hdn hdc
    unfold opV at hsp ⊢
    gi_wp2_with fail
    refine ⟨trivial, ?_⟩
    refine (CallsIn.inRound lo (callsIn_wide.2 hsp)).mono ?_
    rintro e W1 ⟨rfl, hb1⟩
    have hx1 : ∀ j, W1.cell? ⟨Bx, j, none⟩ = W.cell? ⟨Bx, j, none⟩ := fun j => hb1.cell (p := ⟨Bx, j, none⟩) hbs
    have hbs1 : Bx < W1.heap.size := by have := hb1.size; omega
    have J1 : Hid (RowIs W1 w1.heap.size 3 1 (fun _ => .int .i64 (dn : Int))) := I1.out.stays hb1
    have J2 : Hid (NeedAt W1 (w1.heap.size + 1) (needN (cameL pre))) := RowIs.stays I2.out hb1
    have J5 : Hid (Below w.heap.size w W1) := I5.out.trans (hb1.mono I5.out.size)
    have J6 : Hid (w1.heap.size + 3 ≤ W1.heap.size) := by show _ ≤ _; have := hb1.size; omega
    have JK : Hid (KpO (w1.heap.size + 3) w1.heap.size (w1.heap.size + 1) W W1) := KpO.of_below hb1 i6
    have JF : Hid (KeepsFrom U.heap.size W W1) := KeepsFrom.of_grownBy (row := none) ⟨hb1.os, hb1.tape, hb1.output, hb1.size, fun k hk _ => hb1.block k hk⟩ (by simp)
    have d1 := J1.out.cell (j := 0) (by omega)
    have e1 := J1.out.fz 0
    have hzc : w1.heap.size < W1.heap.size := by have := J6.out; omega
    clear hsp hb1 c1 f1 I1 I2 I5
    cases sb with
    | true =>
      have K1 := J1.out.put 0 (.int .i64 ((dn : Int) + 1)) (fun _ => .int .i64 ((dn : Int) + 1)) rfl (fun j hj hn => by omega)
      have K2 : NeedAt (W1.setCell ⟨w1.heap.size, 0, none⟩ (.int .i64 ((dn : Int) + 1))) (w1.heap.size + 1) (needN (cameL pre)) := RowIs.block J2.out (Below.heap_setCell _ _ _ _ (by show w1.heap.size + 1 ≠ w1.heap.size; omega))
      have KK := JK.out.trans (KpO.of_grown (b := w1.heap.size) (x2 := w1.heap.size + 1) (grown_set (w := W1) ⟨w1.heap.size, 0, none⟩ (.int .i64 ((dn : Int) + 1))) J6.out (.inl rfl))
      have KF := JF.out.trans ((KeepsOthers.setCell W1 ⟨w1.heap.size, 0, none⟩ (.int .i64 ((dn : Int) + 1))).from U.heap.size)
      have K5 := J5.out.setCell (p := ⟨w1.heap.size, 0, none⟩) (by show w.heap.size ≤ w1.heap.size; omega) (.int .i64 ((dn : Int) + 1))
      have K6 : w1.heap.size + 3 ≤ (W1.setCell ⟨w1.heap.size, 0, none⟩ (.int .i64 ((dn : Int) + 1))).heap.size := by simp [World.setCell]; exact J6.out
      have K1 : Hid _ := K1
      have K2 : Hid _ := K2
      have KK : Hid _ := KK
      have KF : Hid _ := KF
      have K5 : Hid _ := K5
      have K6 : Hid _ := K6
      clear J1 J2 JK JF J5 J6
      gi_wp2_with fail
      generalize W1.setCell ⟨w1.heap.size, 0, none⟩ (.int .i64 ((dn : Int) + 1)) = W2 at *
      refine ⟨trivial, ?_⟩
      refine (CallsIn.inRound lo (callsIn_wide.2 (pass_any K2.out y.2.1 OKY.out.w0 OKY.out.w1 OKY.out.r))).mono ?_
      rintro e W3 ⟨rfl, hN3, hg3⟩
      have L1 := RowIs.block K1.out (hg3.block w1.heap.size (RowIs.lt K1.out) (by intro e; have := Option.some.inj e; omega))
      have LF := KF.out.trans (KeepsFrom.of_grownBy (B := U.heap.size) hg3 (fun j e => by have := Option.some.inj e; omega))
      have LK := KK.out.trans (KpO.of_grown hg3 K6.out (.inr (.inl rfl)))
      have L5 := below_of_grown K5.out hg3 (Nat.le_refl _) (by omega)
      have L6 := Nat.le_trans K6.out hg3.size
      have LH : Hid (_ ∧ _) := ⟨hN3, hg3⟩
      clear hN3 hg3
      gi_wp2
      refine ⟨LF, LK, ⟨?_, ?_⟩, L5, L6⟩
      · have e0 : (deadC (cameL (pre ++ [y])) : Int) = dn + 1 := by rw [HD.out]; simp; omega
        rw [e0]; exact L1
      · rw [HN.out]; exact LH.out.1
    | false =>
      have K1 := J1
      have K2 := J2
      have KK := JK
      have KF := JF
      have K5 := J5
      have K6 := J6
      clear J1 J2 JK JF J5 J6
      gi_wp2_with fail
      refine ⟨trivial, ?_⟩
      refine (CallsIn.inRound lo (callsIn_wide.2 (pass_any K2.out y.2.1 OKY.out.w0 OKY.out.w1 OKY.out.r))).mono ?_
      rintro e W3 ⟨rfl, hN3, hg3⟩
      have L1 := RowIs.block K1.out (hg3.block w1.heap.size (RowIs.lt K1.out) (by intro e; have := Option.some.inj e; omega))
      have LF := KF.out.trans (KeepsFrom.of_grownBy (B := U.heap.size) hg3 (fun j e => by have := Option.some.inj e; omega))
      have LK := KK.out.trans (KpO.of_grown hg3 K6.out (.inr (.inl rfl)))
      have L5 := below_of_grown K5.out hg3 (Nat.le_refl _) (by omega)
      have L6 := Nat.le_trans K6.out hg3.size
      have LH : Hid (_ ∧ _) := ⟨hN3, hg3⟩
      clear hN3 hg3
      gi_wp2
      refine ⟨LF, LK, ⟨?_, ?_⟩, L5, L6⟩
      · have e0 : (deadC (cameL (pre ++ [y])) : Int) = dn := by rw [HD.out]; simp
        rw [e0]; exact L1
      · rw [HN.out]; exact LH.out.1
  case done =>
    rintro D ys W hD rfl ⟨⟨h1, h2⟩, hB, hS⟩ hK
    rw [came_all, HP.out] at h1
    have hc1 := h1.cell (j := 0) (by omega)
    refine HK0.out _ _ ?_
    refine (wpIn_wide (n := 4)).1 ?_
    gi_wp2
    refine ⟨by simp, .inl ⟨_, _, rfl, run_takeDeferred hK, ?_⟩⟩
    refine ⟨.int .i64 (deadC l), ?_, rfl, hB.trans (belowK_b (w := w) (Nat.le_refl _) W D _ _ (by omega) hK rfl rfl)⟩
    simp [results, Tryd.f23, go_sem]
  case stop =>
    rintro D c pre W hD ⟨k, hk, rfl⟩ hF hK
    exact hF.elim
end Go.Proofs.YtcccaejjhodnkaaDoor
