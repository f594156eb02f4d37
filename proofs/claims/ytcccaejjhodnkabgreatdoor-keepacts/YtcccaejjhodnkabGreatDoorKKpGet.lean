/-
  Package keep: Get.
-/
import Derived.Test.YtcccaejjhodnkabGreatDoorQKpPut
namespace Go.Proofs.YtcccaejjhodnkabGreatDoor
open Go.RowKit Go.Maps
open Num
set_option linter.unusedVariables false
/-- those of a place -/
def atK (pc : Int) (x : Kx) : Bool := decide (x.pc = pc)
theorem KIs.of {mb : Nat} {w w' : World} {kb : Nat} {room : Int} {v v' : Value} {l' : List Kx} (ones : ∀ x ∈ l', KHold mb w kb v (KOne x)) (hg : w.grownBy w' (some kb)) (hv : ∀ k, v'.ownBlock = some k → w.heap.size ≤ k) (row : KRow w' kb room v' l') : KIs mb w' kb room v' l' :=
  ⟨row, fun x hx => (ones x hx).next hg.size (fun k h1 h2 _ _ => hg.block k h1 (fun e => h2 (by injection e))) fun k e => .inr (hv k e)⟩
theorem KRow.blocks {w w' : World} {kb : Nat} {room : Int} {v : Value} {l : List Kx} (K : KRow w kb room v l) (h0 : w'.heap[kb]? = w.heap[kb]?) (h : ∀ k, v.ownBlock = some k → w'.heap[k]? = w.heap[k]?) : KRow w' kb room v l :=
  ⟨K.st.block h0, owns_blocks K.own h⟩
/-- cells of a block that was not there -/
theorem grown_put3 {w w3 : World} {kb : Nat} {a b c : Value} (hg : w.grownBy w3 (some kb)) : w.grownBy (((w3.setCell ⟨w.heap.size, 0, none⟩ a).setCell ⟨w.heap.size, 1, none⟩ b).setCell ⟨w.heap.size, 2, none⟩ c) (some kb) :=
  ⟨hg.os, hg.tape, hg.output, by rw [World.size_setCell, World.size_setCell, World.size_setCell]; exact hg.size, fun k hk hne => by
    have h : k ≠ w.heap.size := by omega
    rw [Below.heap_setCell _ _ _ _ h, Below.heap_setCell _ _ _ _ h, Below.heap_setCell _ _ _ _ h]; exact hg.block k hk hne⟩
theorem kp_results2 {fn : Func} {p q : Tmp} {ty : TypeId} {A : Addr} {x : Value} (h : fn.results = #[.cell p ty, .tmp q]) (tmps : Array Value) (P : Program) (w : World) (hp : tmps.getD p undef = .pointer (some A)) (hl : (loadVar ty A).run P w = .ok x w) :
    (results fn tmps).run P w = .ok (.tuple #[x, tmps.getD q undef]) w := by
  simp only [results, h]
  simp only [asAddr, hp, Sem.run_bind, List.mapM_toArray, List.mapM_cons, List.mapM_nil, Sem.run_map, Sem.run_pure, Result.andThen, hl]
  simp
/-- what Get leaves -/
def GetDone (mb : Nat) (w : World) (kb : Nat) (room : Int) (l : List Kx) (pc : Int) (e : Ending) (w' : World) : Prop :=
  (l.filter (atK pc) = [] ∧ e = .returned (.tuple #[.agg #[.int .u32 0, .int .i64 0, .slice none 0 0], .bool false]) ∧ (∃ v', KIs mb w' kb room v' (l.filter (othK pc)))
    ∨ ∃ x r v' v5 us, l.filter (atK pc) = x :: r ∧ e = .returned (.tuple #[.agg #[.int .u32 x.pc, .int .i64 x.many, v5], .bool true]) ∧ KIs mb w' kb room v' (l.filter (othK pc) ++ (x :: r)) ∧ RwK w.heap.size w' v5 us x.rs) ∧ w.grownBy w' (some kb)
set_option maxRecDepth 100000 in
set_option maxHeartbeats 4000000 in
theorem get_any {mb : Nat} {w : World} {kb : Nat} {room : Int} {v : Value} {l : List Kx} (K : KIs mb w kb room v l) (hl : l.length ≤ 400) (hF : ∀ x ∈ l, Few x.rs ∧ ∀ r ∈ x.rs, 0 < r.length) (pc : Int) :
    Calls Tryz.prog 13 #[.pointer (some ⟨kb, 0, none⟩), .int .u32 pc] w (GetDone mb w kb room l pc) := by
  obtain ⟨i0, hi, iz0, iz1, iz2⟩ := info_parts infoKept
  have hb1 : Below w.heap.size w (w.alloc (.cells #[.int .u32 0, .int .i64 0, .slice none 0 0] 48)) := (Below.refl _ _).alloc (Nat.le_refl _) _
  obtain ⟨w1, hw1⟩ : ∃ w1, w.alloc (.cells #[.int .u32 0, .int .i64 0, .slice none 0 0] 48) = w1 := ⟨_, rfl⟩
  rw [hw1] at hb1
  have R1 : RowIs w1 w.heap.size 48 3 (fun j => if j = 0 then .int .u32 0 else if j = 1 then .int .i64 0 else .slice none 0 0) := by
    rw [← hw1]
    exact ⟨#[.int .u32 0, .int .i64 0, .slice none 0 0], heap_alloc_new w _, rfl, fun j hj => by rcases (by omega : j = 0 ∨ j = 1 ∨ j = 2) with rfl | rfl | rfl <;> rfl⟩
  have z1 : w.heap.size < w1.heap.size := by rw [← hw1, World.size_alloc]; omega
  have hf := isAt_any w1 pc
  have hb2 : Below w1.heap.size w1 (w1.alloc (.cells #[.int .u32 pc] 34)) := (Below.refl _ _).alloc (Nat.le_refl _) _
  have hc : (w1.alloc (.cells #[.int .u32 pc] 34)).cell? ⟨w1.heap.size, 0, none⟩ = some (.int .u32 pc) := by simp
  have ht := take_any ((K.row.stays hb1).stays hb2) (by omega) 46 (.inl rfl) w1.heap.size (atK pc) (fun x hx W hW => isAt1_any ((hW.cell (p := ⟨w1.heap.size, 0, none⟩) (by rw [World.size_alloc]; exact Nat.lt_succ_self _)).trans hc) x)
  have HK : Hid (KIs mb w kb room v l) := K
  have HF : Hid (∀ x ∈ l, Few x.rs ∧ ∀ r ∈ x.rs, 0 < r.length) := hF
  have HB1 : Hid (Below w.heap.size w w1) := hb1
  have HB2 : Hid (Below w1.heap.size w1 (w1.alloc (.cells #[.int .u32 pc] 34))) := hb2
  have HR1 : Hid (RowIs w1 w.heap.size 48 3 (fun j => if j = 0 then .int .u32 0 else if j = 1 then .int .i64 0 else .slice none 0 0)) := R1
  have zk := K.row.lt
  clear K hb1 hb2 hc R1 hF
  go_enter Tryz.func13, Tryz.ntmps13
  go_wp2_with fail
  refine hf.mono ?_
  rintro e w2 ⟨rfl, rfl⟩
  clear hf hw1
  go_wp2_with fail
  refine ht.mono ?_
  rintro e w3 ⟨tv, sv, rfl, hto, hk3, hap, hg3⟩
  have hB02 : Below w.heap.size w (w1.alloc (.cells #[.int .u32 pc] 34)) := HB1.out.trans (HB2.out.mono HB1.out.size)
  have hg03 : w.grownBy w3 (some kb) := grown_of hB02 hg3
  have hs12 := HB2.out.size
  have hsv1 : ∀ k, sv.ownBlock = some k → w1.heap.size ≤ k := fun k e => Nat.le_trans hs12 (hap k e).1
  have hsvk : ∀ k, sv.ownBlock = some k → w.heap.size ≤ k := fun k e => by have := hsv1 k e; omega
  have hrb : w3.heap[w.heap.size]? = w1.heap[w.heap.size]? := (hg3.block w.heap.size (Nat.lt_of_lt_of_le z1 hs12) (fun e => by injection e; omega)).trans (HB2.out.block w.heap.size z1)
  have R3 := HR1.out.block hrb
  have z3 : w.heap.size < w3.heap.size := R3.lt
  have hl1 : (l.filter (othK pc)).length ≤ 400 := Nat.le_trans (List.length_filter_le _ _) hl
  have hlt : (l.filter (atK pc)).length ≤ 400 := Nat.le_trans (List.length_filter_le _ _) hl
  obtain ⟨sa, sn, sc, hsv⟩ := own_slice hk3.own
  subst hsv
  obtain ⟨t, hte⟩ : ∃ t, l.filter (atK pc) = t := ⟨_, rfl⟩
  rw [hte] at hto hlt
  have HTE : Hid (l.filter (atK pc) = t) := hte
  have d0 := R3.cell (j := 0) (by omega)
  have d1 := R3.cell (j := 1) (by omega)
  have d2 := R3.cell (j := 2) (by omega)
  simp only [if_true, Nat.reduceEqDiff, if_false] at d0 d1 d2
  have e0 := R3.fz 0
  have e1 := R3.fz 1
  have e2 := R3.fz 2
  cases t with
  | nil =>
    rcases hto.2 with ⟨htv, _⟩ | ⟨tg, tcap, tcur, htv, _⟩
    all_goals
      subst htv
      have RZ := R3.put3 (.int .u32 0) (.int .i64 0) (.slice none 0 0)
      have HP : Hid ((loadVar 48 ⟨w.heap.size, 0, none⟩).run Tryz.prog (((w3.setCell ⟨w.heap.size, 0, none⟩ (.int .u32 0)).setCell ⟨w.heap.size, 1, none⟩ (.int .i64 0)).setCell ⟨w.heap.size, 2, none⟩ (.slice none 0 0)) = .ok (.agg #[.int .u32 0, .int .i64 0, .slice none 0 0]) _) := kp_load (RZ.cell (j := 0) (by omega)) (RZ.cell (j := 1) (by omega)) (RZ.cell (j := 2) (by omega))
      have hput : ∀ k, k ≠ w.heap.size → (((w3.setCell ⟨w.heap.size, 0, none⟩ (.int .u32 0)).setCell ⟨w.heap.size, 1, none⟩ (.int .i64 0)).setCell ⟨w.heap.size, 2, none⟩ (.slice none 0 0)).heap[k]? = w3.heap[k]? := fun k hk => by rw [Below.heap_setCell _ _ _ _ hk, Below.heap_setCell _ _ _ _ hk, Below.heap_setCell _ _ _ _ hk]
      have HX : Hid (KIs mb (((w3.setCell ⟨w.heap.size, 0, none⟩ (.int .u32 0)).setCell ⟨w.heap.size, 1, none⟩ (.int .i64 0)).setCell ⟨w.heap.size, 2, none⟩ (.slice none 0 0)) kb room (.slice sa sn sc) (l.filter (othK pc))) := KIs.of (fun x hx => HK.out.one x (List.mem_filter.1 hx).1) (grown_put3 hg03) hsvk (hk3.blocks (hput kb (by omega)) fun k e => hput k (by have := hsv1 k e; omega))
      have HG : Hid (w.grownBy (((w3.setCell ⟨w.heap.size, 0, none⟩ (.int .u32 0)).setCell ⟨w.heap.size, 1, none⟩ (.int .i64 0)).setCell ⟨w.heap.size, 2, none⟩ (.slice none 0 0)) (some kb)) := grown_put3 hg03
      clear ht hto hk3 hap hg3 hB02 hg03 hsvk hrb R3 RZ hput hte hsv1
      go_wp2
      refine bodyPost_ret (kp_results2 (A := ⟨w.heap.size, 0, none⟩) rfl _ _ _ rfl HP.out) rfl ?_
      exact ⟨.inl ⟨HTE.out, rfl, _, HX.out⟩, HG.out⟩
  | cons x r =>
    have hxl : x ∈ l := (List.mem_filter.1 (by rw [hte]; exact List.mem_cons_self ..)).1
    have htl : ∀ y ∈ l.filter (othK pc) ++ (x :: r), y ∈ l := fun y hy => by
      rcases List.mem_append.1 hy with hy | hy
      · exact (List.mem_filter.1 hy).1
      · exact (List.mem_filter.1 (by rw [hte]; exact hy)).1
    rcases hto.2 with ⟨_, h0⟩ | ⟨tg, tcap, tcur, htv, _⟩
    · simp at h0
    subst htv
    have hnews : ∀ j u, (kL (x :: r))[j]? = some u → w3.cell? ((⟨tg, 0, none⟩ : Addr).add j) = some u := fun j u hj => hto.cells (g := tg) rfl j u hj
    have hx3 : w3.cell? ⟨tg, 0, none⟩ = some (.int .u32 x.pc) ∧ w3.cell? ⟨tg, 1, none⟩ = some (.int .i64 x.many) ∧ w3.cell? ⟨tg, 2, none⟩ = some (.slice x.ra x.rn x.rc) := by
      have := row_cells hto (j := 0) (x := x) rfl
      simpa using ⟨this.1, this.2.1, this.2.2.1⟩
    have htg : (Value.slice sa sn sc).ownBlock ≠ some tg := fun e => (hap tg e).2 rfl
    have htk : tg ≠ kb ∧ w1.heap.size ≤ tg := by have := (own_lt hto tg rfl).2; omega
    have hbs : kb + 1 ≤ w3.heap.size := hk3.lt
    have k3 := hk3.c1
    have zk3 := hk3.lt
    have hkne : (Value.slice sa sn sc).ownBlock ≠ some kb := fun e => by have := (own_lt hk3.own kb e).2; omega
    have HA : Hid (∀ v4 w4, w4.ownsRow (kb + 1) 81 4 v4 ((l.filter (othK pc)).length + (r.length + 1)) (kL (l.filter (othK pc)) ++ kL (x :: r)) → w3.grownBy w4 (Value.slice sa sn sc).ownBlock → Moved w3 (.slice sa sn sc) v4 →
        KRow (w4.setCell ⟨kb, 1, none⟩ v4) kb room v4 (l.filter (othK pc) ++ (x :: r)) ∧ w.grownBy (w4.setCell ⟨kb, 1, none⟩ v4) (some kb) ∧ (∀ k, v4.ownBlock = some k → w1.heap.size ≤ k) ∧ (w4.cell? ⟨kb, 1, none⟩ = some (.slice sa sn sc) ∧ w4.frozen? ⟨kb, 1, none⟩ = false ∧ kb < w4.heap.size) ∧
        ((w4.setCell ⟨kb, 1, none⟩ v4).heap[w.heap.size]? = w3.heap[w.heap.size]? ∧ (w4.setCell ⟨kb, 1, none⟩ v4).heap[tg]? = w3.heap[tg]?)) := fun v4 w4 h1 h2 h3 => by
      have bk : ∀ k, k < w3.heap.size → (Value.slice sa sn sc).ownBlock ≠ some k → w4.heap[k]? = w3.heap[k]? := fun k hk hne => h2.block k hk (Ne.symm hne)
      have b1 := bk kb hk3.lt hkne
      have hs4 := h2.size
      refine ⟨KRow.mk2 (hk3.st.block b1) (by rw [List.length_append, show kL (l.filter (othK pc) ++ (x :: r)) = kL (l.filter (othK pc)) ++ kL (x :: r) by unfold kL; simp]; exact h1), ⟨h2.os.trans hg03.os, h2.tape.trans hg03.tape, h2.output.trans hg03.output, by rw [World.size_setCell]; exact Nat.le_trans hg03.size hs4, fun k hk hne => ?_⟩, fun k e => ?_, ⟨(World.cell?_of_block (a := ⟨kb, 1, none⟩) b1).trans hk3.c1, (World.frozen?_of_block (a := ⟨kb, 1, none⟩) b1).trans (hk3.fz 1), by have := hk3.lt; omega⟩, ?_, ?_⟩
      · have hkn : k ≠ kb := fun e => hne (by rw [e])
        have := hg03.size
        rw [Below.heap_setCell _ _ _ _ hkn, bk k (by omega) (fun e => by have := hsvk k e; omega), hg03.block k hk hne]
      · rcases h3 k e with h | h
        · exact hsv1 k h
        · have h5 := hg3.size
          omega
      · rw [Below.heap_setCell _ _ _ _ (show w.heap.size ≠ kb by omega), bk _ z3 (fun e => by have := hsv1 _ e; omega)]
      · rw [Below.heap_setCell _ _ _ _ htk.1, bk _ (own_lt hto tg rfl).1 htg]
    have HO3 : Hid (w3.ownsRow (kb + 1) 81 4 (.slice sa sn sc) (l.filter (othK pc)).length (kL (l.filter (othK pc)))) := hk3.own
    have HR3 : Hid (RowIs w3 w.heap.size 48 3 (fun j => if j = 0 then .int .u32 0 else if j = 1 then .int .i64 0 else .slice none 0 0)) := R3
    have HX3 : Hid _ := hx3
    have HTL : Hid (∀ y ∈ l.filter (othK pc) ++ (x :: r), y ∈ l) := htl
    have HXL : Hid (x ∈ l) := hxl
    have hkl1 := kL_one (x :: r)
    have hkll : (kL (x :: r)).length = (r.length + 1) * 4 := kL_len (x :: r)
    clear ht hto hk3 hap hg3 hB02 hg03 hsvk hrb R3 hte hsv1 d0 d1 d2 e0 e1 e2 hx3 htl hxl htg hkne
    have hln : r.length + 1 ≤ 400 := hlt
    generalize hT : kL (x :: r) = kt at *
    go_upto_region 5 with (at_builtin; refine wpList_append_moved rfl _ _ 65 rfl (kb + 1) 81 i0 _ 4 64 Tryz.underlying65 hi iz0 iz1 iz2 rfl (by decide) (.slice sa sn sc) _ _ rfl HO3.out ⟨tg, 0, none⟩ (r.length + 1) tcap kt rfl hkll hnews hkl1 (by unfold maxLen; omega) (by omega) hbs ?_; intro v4 w4 ho4 hg4 hm4; obtain ⟨g4, cap4, hv4⟩ := own_pos ho4; subst hv4; obtain ⟨q1, q2, q3, ⟨q4, q5, q6⟩, q7, q8⟩ := HA.out _ w4 ho4 hg4 hm4; have Q1 : Hid (KRow (w4.setCell ⟨kb, 1, none⟩ (.slice (some ⟨g4, 0, none⟩) ((l.filter (othK pc)).length + (r.length + 1)) cap4)) kb room (.slice (some ⟨g4, 0, none⟩) ((l.filter (othK pc)).length + (r.length + 1)) cap4) (l.filter (othK pc) ++ (x :: r))) := q1; have Q2 : Hid (w.grownBy (w4.setCell ⟨kb, 1, none⟩ (.slice (some ⟨g4, 0, none⟩) ((l.filter (othK pc)).length + (r.length + 1)) cap4)) (some kb)) := q2; have Q3 : Hid (w1.heap.size ≤ g4) := q3 g4 rfl; have Q7 : Hid ((w4.setCell ⟨kb, 1, none⟩ (.slice (some ⟨g4, 0, none⟩) ((l.filter (othK pc)).length + (r.length + 1)) cap4)).heap[w.heap.size]? = w3.heap[w.heap.size]?) := q7; have Q8 : Hid ((w4.setCell ⟨kb, 1, none⟩ (.slice (some ⟨g4, 0, none⟩) ((l.filter (othK pc)).length + (r.length + 1)) cap4)).heap[tg]? = w3.heap[tg]?) := q8; clear q1 q2 q3 q7 q8 ho4 hg4 hm4 HA HO3 hnews hkl1 hkll hbs k3)
    clear q4 q5 q6
    generalize w4.setCell ⟨kb, 1, none⟩ (.slice (some ⟨g4, 0, none⟩) ((l.filter (othK pc)).length + (r.length + 1)) cap4) = wB at *
    have x0 := (World.cell?_of_block (a := ⟨tg, 0, none⟩) Q8.out).trans HX3.out.1
    have x1 := (World.cell?_of_block (a := ⟨tg, 1, none⟩) Q8.out).trans HX3.out.2.1
    have x2 := (World.cell?_of_block (a := ⟨tg, 2, none⟩) Q8.out).trans HX3.out.2.2
    have RB := HR3.out.block Q7.out
    have zB : w.heap.size < wB.heap.size := RB.lt
    have zt := World.block_lt_of_cell? _ _ x0
    have hKB : KIs mb wB kb room (.slice (some ⟨g4, 0, none⟩) ((l.filter (othK pc)).length + (r.length + 1)) cap4) (l.filter (othK pc) ++ (x :: r)) := KIs.of (fun y hy => HK.out.one y (HTL.out y hy)) Q2.out (fun k e => by have h1 : k = g4 := (by simpa [Value.ownBlock] using e.symm); have := Q3.out; omega) Q1.out
    have hxx := (hKB.one x (List.mem_append.2 (.inr (List.mem_cons_self ..)))).here.2
    have hco := copyOf_any hxx (HF.out x HXL.out).1 (HF.out x HXL.out).2 x.pc x.many
    have HRB : Hid (RowIs wB w.heap.size 48 3 (fun j => if j = 0 then .int .u32 0 else if j = 1 then .int .i64 0 else .slice none 0 0)) := RB
    have hr1 : (0 : Int) < (r.length : Int) + 1 := by omega
    clear hKB hxx RB HX3 HR3
    go_wp2_with fail
    refine hco.mono ?_
    rintro e wC ⟨v5, us, rfl, hr5, hb5⟩
    obtain ⟨ya, yn, yc, hv5⟩ := own_slice hr5.own
    subst hv5
    have RC := HRB.out.stays hb5
    have d0 := RC.cell (j := 0) (by omega)
    have d1 := RC.cell (j := 1) (by omega)
    have d2 := RC.cell (j := 2) (by omega)
    simp only [if_true, Nat.reduceEqDiff, if_false] at d0 d1 d2
    have e0 := RC.fz 0
    have e1 := RC.fz 1
    have e2 := RC.fz 2
    have zC := RC.lt
    have RZ := RC.put3 (.int .u32 x.pc) (.int .i64 x.many) (.slice ya yn yc)
    have HP : Hid ((loadVar 48 ⟨w.heap.size, 0, none⟩).run Tryz.prog (((wC.setCell ⟨w.heap.size, 0, none⟩ (.int .u32 x.pc)).setCell ⟨w.heap.size, 1, none⟩ (.int .i64 x.many)).setCell ⟨w.heap.size, 2, none⟩ (.slice ya yn yc)) = .ok (.agg #[.int .u32 x.pc, .int .i64 x.many, .slice ya yn yc]) _) := kp_load (RZ.cell (j := 0) (by omega)) (RZ.cell (j := 1) (by omega)) (RZ.cell (j := 2) (by omega))
    have hput : ∀ k, k ≠ w.heap.size → (((wC.setCell ⟨w.heap.size, 0, none⟩ (.int .u32 x.pc)).setCell ⟨w.heap.size, 1, none⟩ (.int .i64 x.many)).setCell ⟨w.heap.size, 2, none⟩ (.slice ya yn yc)).heap[k]? = wC.heap[k]? := fun k hk => by rw [Below.heap_setCell _ _ _ _ hk, Below.heap_setCell _ _ _ _ hk, Below.heap_setCell _ _ _ _ hk]
    have hgC := grown_put3 (a := .int .u32 x.pc) (b := .int .i64 x.many) (c := .slice ya yn yc) (grown_to Q2.out hb5)
    have hq3 := Q3.out
    have HX : Hid (KIs mb (((wC.setCell ⟨w.heap.size, 0, none⟩ (.int .u32 x.pc)).setCell ⟨w.heap.size, 1, none⟩ (.int .i64 x.many)).setCell ⟨w.heap.size, 2, none⟩ (.slice ya yn yc)) kb room (.slice (some ⟨g4, 0, none⟩) ((l.filter (othK pc)).length + (r.length + 1)) cap4) (l.filter (othK pc) ++ (x :: r))) :=
      KIs.of (fun y hy => HK.out.one y (HTL.out y hy)) hgC (fun k e => by have h1 : k = g4 := (by simpa [Value.ownBlock] using e.symm); omega) ((Q1.out.stays hb5).blocks (hput kb (by omega)) fun k e => hput k (by have h1 : k = g4 := (by simpa [Value.ownBlock] using e.symm); omega))
    have HG : Hid (w.grownBy (((wC.setCell ⟨w.heap.size, 0, none⟩ (.int .u32 x.pc)).setCell ⟨w.heap.size, 1, none⟩ (.int .i64 x.many)).setCell ⟨w.heap.size, 2, none⟩ (.slice ya yn yc)) (some kb)) := hgC
    have HRW : Hid (RwK w.heap.size (((wC.setCell ⟨w.heap.size, 0, none⟩ (.int .u32 x.pc)).setCell ⟨w.heap.size, 1, none⟩ (.int .i64 x.many)).setCell ⟨w.heap.size, 2, none⟩ (.slice ya yn yc)) (.slice ya yn yc) us x.rs) := (hr5.blocks (by simp) fun k hk1 hk2 => hput k (by omega)).low (by omega)
    clear hco hr5 hb5 RC RZ hput hgC Q1 Q2 Q7 Q8 HRB x0 x1 x2 zt
    go_wp2
    refine bodyPost_ret (kp_results2 (A := ⟨w.heap.size, 0, none⟩) rfl _ _ _ rfl HP.out) rfl ?_
    exact ⟨.inr ⟨x, r, _, _, us, HTE.out, rfl, HX.out, HRW.out⟩, HG.out⟩
end Go.Proofs.YtcccaejjhodnkabGreatDoor
/-
  Rising numbers: what is among them.
-/
namespace Go.Proofs.YtcccaejjhodnkabGreatDoor
open Go.RowKit
set_option linter.unusedVariables false
theorem mem_compactK {zs : List Int} {x : Int} : x ∈ Lib.compact zs ↔ x ∈ zs := by
  have at_ : ∀ i (hi : i < zs.length), zs.toArray[i]! = zs[i] := fun i hi => by simp [getElem!_pos, hi]
  constructor
  · intro h
    unfold Lib.compact Lib.compactUpTo at h
    obtain ⟨i, hi, rfl⟩ := List.mem_map.1 h
    have hi' : i < zs.length := List.mem_range.1 (List.mem_filter.1 hi).1
    rw [at_ i hi']; exact List.getElem_mem hi'
  · intro h
    obtain ⟨i, hi, rfl⟩ := List.getElem_of_mem h
    have key : ∀ n, ∀ i (hi : i < zs.length), i ≤ n → zs[i] ∈ Lib.compact zs := by
      intro n
      induction n with
      | zero =>
        intro i hi h0
        obtain rfl : i = 0 := by omega
        unfold Lib.compact Lib.compactUpTo
        exact List.mem_map.2 ⟨0, List.mem_filter.2 ⟨List.mem_range.2 hi, Lib.keeps_lt_one _ 0 (by omega)⟩, at_ 0 hi⟩
      | succ n ih =>
        intro i hi h0
        by_cases hc : Lib.keeps zs.toArray i = true
        · unfold Lib.compact Lib.compactUpTo
          exact List.mem_map.2 ⟨i, List.mem_filter.2 ⟨List.mem_range.2 hi, hc⟩, at_ i hi⟩
        · have hc' := hc
          unfold Lib.keeps at hc'
          simp at hc'
          obtain ⟨h1, h2⟩ := hc'
          have hi1 : i - 1 < zs.length := by omega
          have h3 : zs[i] = zs[i - 1] := by
            have e1 := at_ i hi
            have e2 := at_ (i - 1) hi1
            simp at e1 e2
            rw [← e1, ← e2]; first | exact h2 | exact h2.symm
          rw [h3]
          exact ih (i - 1) hi1 (by omega)
    exact key i i hi (Nat.le_refl _)
theorem mem_rise {zs : List Int} {x : Int} : x ∈ rise zs ↔ x ∈ zs := by
  unfold rise
  rw [mem_compactK]
  exact (List.mergeSort_perm zs _).mem_iff
theorem rise_len (zs : List Int) : (rise zs).length ≤ zs.length := by
  unfold rise
  have h1 := Lib.compact_length_le (zs.mergeSort fun x y => decide (x ≤ y))
  have h2 : (zs.mergeSort fun x y => decide (x ≤ y)).length = zs.length := List.length_mergeSort zs
  omega
theorem rise_one (z : Int) : rise [z] = [z] := by
  unfold rise
  rw [List.mergeSort_singleton]
  rfl
theorem mem_allPg {l : List Kx} {z : Int} : z ∈ allPg l ↔ ∃ x ∈ l, z ∈ x.zs := by unfold allPg; simp
/-- one op in a row of its own -/
theorem rows_one {W : World} {bo br : Nat} {o : Opx} (ok : o.ok) (h1 : W.heap[bo]? = some (.cells #[.string o.s, .int .i64 o.d, .int .i64 o.a, .int .i64 o.b, .int .u32 o.i, .int .i64 o.t] 64 (0, 0))) (h2 : W.heap[br]? = some (.cells #[.slice (some ⟨bo, 0, none⟩) 1 1] 40 (0, 0))) :
    RowsI W (.slice (some ⟨br, 0, none⟩) 1 1) [[o]] := by
  refine ⟨_, 1, rfl, by simp, fun _ => ⟨br, 0, rfl, fun i row hi => ?_⟩⟩
  have hi0 : i = 0 := by have := (List.getElem?_eq_some_iff.1 hi).1; simpa using this
  subst hi0
  obtain rfl : [o] = row := by simpa using hi
  refine ⟨_, by rw [cell_of_row _ _ _ _ _ _ h2]; rfl, ⟨⟨_, 1, rfl, by simp, fun _ => ⟨bo, 0, rfl, fun i o' hi' j u hu => ?_⟩⟩, fun o' ho => by rw [List.mem_singleton.1 ho]; exact ok⟩⟩
  have hi0 : i = 0 := by have := (List.getElem?_eq_some_iff.1 hi').1; simpa using this
  subst hi0
  obtain rfl : o = o' := by simpa using hi'
  rw [cell_of_row _ _ _ _ _ _ h1, show 0 + 0 * 6 + j = j by omega]
  rw [List.getElem?_toArray]; exact hu
theorem ints_one {W : World} {bg : Nat} {z : Int} (h : W.heap[bg]? = some (.cells #[.int .i64 z] 3 (0, 0))) : IntsAt W (.slice (some ⟨bg, 0, none⟩) 1 1) [z] := by
  refine .inr ⟨bg, 0, 1, rfl, by simp, (Array.getElem?_eq_some_iff.1 h).1, fun j hj => ?_⟩
  have hj0 : j = 0 := by simpa using hj
  subst hj0
  rw [cell_of_row _ _ _ _ _ _ h]; rfl
/-- the op that goes on at imm -/
def outO (imm : Int) : Opx := ⟨⟨#[111, 117, 116]⟩, 0, 0, 0, imm, 0⟩
theorem planF_out8 : planF 1 [[outO 8]] = (0, -1) := by kernel_rfl
theorem outO_ok (imm : Int) (h0 : 0 ≤ imm) (h1 : imm < 4294967296) : (outO imm).ok := by
  refine ⟨?_, ?_, ?_, ?_, ?_, ?_, ?_, ?_, ?_, ?_⟩ <;> simp [outO] <;> omega
end Go.Proofs.YtcccaejjhodnkabGreatDoor
