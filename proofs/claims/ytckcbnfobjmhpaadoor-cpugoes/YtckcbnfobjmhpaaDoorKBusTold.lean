/-
  What a bus tells: its trace, its output.
-/
import Derived.Lib.SliceRun
import Derived.Laws.BytesArg
import Derived.Test.YtckcbnfobjmhpaaDoorKPartsWalk
import Derived.Test.YtckcbnfobjmhpaaDoorQBusMem
namespace Go.Proofs.YtckcbnfobjmhpaaDoor
open Go.RowKit Go.Maps
open Num
set_option linter.unusedVariables false
theorem acc_one (tr : List Acc) : ∀ u ∈ tr.flatMap accC, u.oneCell' = true := by
  intro u hu
  obtain ⟨x, _, hx⟩ := List.mem_flatMap.1 hu
  simp [accC] at hx
  rcases hx with rfl | rfl | rfl | rfl <;> rfl
set_option maxRecDepth 100000 in
set_option maxHeartbeats 1000000 in
theorem clone55 {w : World} {base n : Nat} {v : Value} {xs : List Value} (h : w.ownsRow base 76 4 v n xs) (hn : n ≤ 1000) (h1 : ∀ u ∈ xs, u.oneCell' = true) :
    Calls Tryd.prog 35 #[v] w fun e w' => ∃ ao cap, e = .returned (.slice ao n cap) ∧ w'.ownsRow w.heap.size 76 4 (.slice ao n cap) n xs ∧ Below w.heap.size w w' := by
  obtain ⟨i0, hi, hz0, hz1, hz2⟩ := info_parts info55
  have hq : ∀ (w : World) (a : Option Addr) (n c : Nat), (binOp .eql 35 (.slice a n c) (.slice none 0 0)).run Tryd.prog w = .ok (.bool a.isNone) w := fun w a n c => Lib.run_eql_slice_nil w 35 76 a n c 0 0 Tryd.underlying35
  rcases h.2 with ⟨rfl, rfl⟩ | ⟨g, cap, cur, rfl, hb, hg, hnc, hcm, hcs, htake⟩
  · have hx : xs = [] := List.eq_nil_of_length_eq_zero (by simpa using h.1)
    subst hx
    go_enter Tryd.func35, Tryd.ntmps35
    go_wp2
    go_ret
    exact ⟨none, 0, rfl, World.ownsRow_nil _ _ _ _, Below.refl _ _⟩
  · have hown : (w.alloc (.cells #[] 76)).ownsRow w.heap.size 76 4 (.slice (some ⟨w.heap.size, 0, none⟩) 0 0) 0 [] := World.ownsRow_made w #[] 0 (Nat.le_refl _) (by unfold maxLen; omega) rfl
    have hnews := (h.alloc (.cells #[] 76)).cells (g := g) rfl
    have hlen := h.1
    clear h hcs htake hg hcm
    go_enter Tryd.func35, Tryd.ntmps35
    go_wp2_with (at_builtin; refine wpList_append_own _ rfl _ _ 35 rfl w.heap.size 76 i0 (.agg #[.int .i64 0, .bool false, .int .u32 0, .int .u32 0]) 4 24 Tryd.underlying35 hi hz0 hz1 hz2 rfl (by decide) (.slice (some ⟨w.heap.size, 0, none⟩) 0 0) 0 [] rfl hown ⟨g, 0, none⟩ n cap xs rfl hlen hnews h1 (by unfold maxLen; omega) (by omega) (by simp) ?_; intro v' w1 ho hg1 hm)
    go_ret
    rw [Nat.zero_add, List.nil_append] at ho
    have hb1 : Below w.heap.size w w1 := ⟨hg1.os, hg1.tape, hg1.output, by have := hg1.size; simp at this; omega, fun k hk => (hg1.block k (by simp; omega) (by simp [Value.ownBlock]; omega)).trans (Below.heap_alloc w _ k hk)⟩
    rcases ho.2 with ⟨e, rfl⟩ | ⟨g', cap', cur', rfl, _⟩
    · subst e
      exact ⟨none, 0, rfl, ho, hb1⟩
    · exact ⟨_, cap', rfl, ho, hb1⟩
section
variable {w : World} {base bb sb bp bw bh N : Nat} {m : Nat → Int} {wt ht : Int → Bool} {out : List Int} {lamp : Int} {tr : List Acc} {vo vt : Value}
theorem trace_any (B : BusIs w base bb sb bp bw bh N m wt ht out lamp tr vo vt) (hn : tr.length ≤ 1000) :
    Calls Tryd.prog 15 #[.pointer (some ⟨bb, 0, none⟩)] w fun e w' => ∃ ao cap, e = .returned (.slice ao tr.length cap) ∧ w'.ownsRow w.heap.size 76 4 (.slice ao tr.length cap) tr.length (tr.flatMap accC) ∧ Below w.heap.size w w' := by
  have hcl := clone55 B.rt hn (acc_one tr)
  have c3 := B.c3
  obtain ⟨ao', cap', hv⟩ : ∃ ao' cap', vt = .slice ao' tr.length cap' := by
    rcases B.rt.2 with ⟨e, h⟩ | ⟨g, cap, cur, e, _⟩
    · exact ⟨none, 0, by rw [e, h]⟩
    · exact ⟨_, cap, e⟩
  subst hv
  clear B
  go_enter Tryd.func15, Tryd.ntmps15
  go_wp2_with fail
  refine hcl.mono ?_
  rintro e w1 ⟨ao, cap, rfl, ho, hb⟩
  clear hcl
  go_wp2
  go_ret
  exact ⟨ao, cap, rfl, ho, hb⟩
/-- the output as a text -/
def outS (out : List Int) : ByteArray := strOfNums out
theorem outC_get (out : List Int) (i : Nat) (h : i < out.length) : (outC out)[i]? = some (.int .u8 (out.getD i 0)) := by
  simp [outC, List.getElem?_map, List.getD, List.getElem?_eq_getElem h]
theorem output_any (B : BusIs w base bb sb bp bw bh N m wt ht out lamp tr vo vt) : Calls Tryd.prog 13 #[.pointer (some ⟨bb, 0, none⟩)] w fun e w' => e = .returned (.string (outS out)) ∧ w' = w := by
  have c1 := B.c1
  have hcv : (convert 71 9 vo).run Tryd.prog w = .ok (.string (outS out)) w := by
    rcases B.ro.2 with ⟨e, h⟩ | ⟨g, cap, cur, e, _⟩
    · have : out = [] := List.eq_nil_of_length_eq_zero h
      subst this
      rw [e, run_convert_bytes_nil w 71 5 Tryd.underlying71 Tryd.underlying5 0 0 9 Tryd.underlying9]
      rfl
    · rw [e]
      refine run_convert_bytes_arg w 71 5 Tryd.underlying71 Tryd.underlying5 g 0 out.length cap out rfl (fun i hi => ?_) 9 Tryd.underlying9
      have := B.ro.cells (g := g) (by rw [e]; rfl) i _ (outC_get out i hi)
      rw [add_lit] at this
      rw [Nat.zero_add]; exact this
  obtain ⟨ao', n', cap', hv⟩ : ∃ ao' n' cap', vo = .slice ao' n' cap' := by
    rcases B.ro.2 with ⟨e, h⟩ | ⟨g, cap, cur, e, _⟩
    · exact ⟨none, 0, 0, by rw [e]⟩
    · exact ⟨_, _, cap, e⟩
  subst hv
  clear B
  generalize outS out = os at *
  go_enter Tryd.func13, Tryd.ntmps13
  go_wp2
  go_ret
  exact ⟨rfl, rfl⟩
end
end Go.Proofs.YtckcbnfobjmhpaaDoor
/-
  The walk of BusApart.
-/
namespace Go.Proofs.YtckcbnfobjmhpaaDoor
open Go.RowKit Go.Maps
open Num
set_option linter.unusedVariables false
theorem new_ex2 {w : World} {v : Value} {xs : List Int} (X : WordsIn w v xs) (hx : xs.length ≤ 5000) :
    Calls Tryd.prog 24 #[v] w fun e w' => ∃ sb bp bw bh : Nat, e = .returned (.pointer (some ⟨sb, 0, none⟩)) ∧ RamIs w' sb bp bw bh 64 (mw xs) (fun _ => false) (fun _ => false) ∧ Below w.heap.size w w' ∧ w.heap.size ≤ sb ∧ w.heap.size ≤ bp ∧ w.heap.size ≤ bw ∧ w.heap.size ≤ bh :=
  (new_any X hx).mono fun e w' ⟨h1, h2, h3⟩ => ⟨_, _, _, _, h1, h2, h3, by omega, by omega, by omega, by omega⟩
theorem no_block (k B : Nat) (h : (Value.slice none 0 0).ownBlock = some k) : B ≤ k := by simp [Value.ownBlock] at h
theorem out65 : outS [65] = ⟨#[65]⟩ := by rfl
theorem words_nil (w : World) : WordsIn w (.slice none 0 0) [] := ⟨⟨none, 0, rfl, Nat.le_refl _, fun h => absurd h (by simp)⟩, mw_wf [] (by simp)⟩
end Go.Proofs.YtckcbnfobjmhpaaDoor
/-
  What holds between the rounds of BusApart.
-/
namespace Go.Proofs.YtckcbnfobjmhpaaDoor
open Go.RowKit Go.Maps
open Num
set_option linter.unusedVariables false
theorem WordsIn.stays {w w' : World} {v : Value} {xs : List Int} (X : WordsIn w v xs) (h : Below w.heap.size w w') : WordsIn w' v xs := by
  obtain ⟨⟨ao, cap, hv, hc, hx⟩, wf⟩ := X
  refine ⟨⟨ao, cap, hv, hc, fun hp => ?_⟩, wf⟩
  obtain ⟨b, off, e, hcell⟩ := hx hp
  exact ⟨b, off, e, fun i hi => by rw [h.cell (World.block_lt_of_cell? _ _ (hcell i hi))]; exact hcell i hi⟩
theorem Er.stays {ps pa pf : Addr} {w w' : World} (E : Er ps pa pf w) (h : Below w.heap.size w w') : Er ps pa pf w' :=
  ⟨by rw [h.cell (World.block_lt_of_cell? _ _ E.s)]; exact E.s, by rw [h.cell (World.block_lt_of_cell? _ _ E.a)]; exact E.a, by rw [h.cell (World.block_lt_of_cell? _ _ E.f)]; exact E.f⟩
theorem Er.below {ps pa pf : Addr} {w w' : World} (E : Er ps pa pf w) (h : Below w.heap.size w w') : Er ps pa pf w' := E.stays h
/-- no page -/
def F0 : Int → Bool := fun _ => false
/-- what holds between the rounds -/
structure Inv (w wr : World) (base bb sb bp bw bh sb' bp' bw' bh' : Nat) (j N N' : Nat) (m : Nat → Int) (out : List Int) (lamp : Int) (tr : List Acc) (vo vt : Value) : Prop where
  n1 : N ≤ 64 + 2 * j
  n2 : N' ≤ 64 + 2 * j
  lo : out.length ≤ j
  lt : tr.length ≤ j
  B : BusIs wr base bb sb bp bw bh N m F0 F0 out lamp tr vo vt
  R : RamIs wr sb' bp' bw' bh' N' m F0 F0
  be : Below w.heap.size w wr
/-- the blocks of the one, and of the other -/
structure Apt (w0 base bb sb bp bw bh sb' bp' bw' bh' : Nat) : Prop where
  b1 : w0 ≤ bb
  b2 : w0 ≤ bp
  b3 : w0 ≤ bh
  r1 : w0 ≤ bp'
  r2 : w0 ≤ bh'
  w0 : w0 ≤ base
  l1 : sb' < base
  l2 : bp' < base
  l3 : bw' < base
  l4 : bh' < base
  a : ∀ k, k = bb ∨ k = sb ∨ k = bp ∨ k = bw ∨ k = bh → k ≠ sb' ∧ k ≠ bp' ∧ k ≠ bw' ∧ k ≠ bh'
theorem Apt.ne {w0 base bb sb bp bw bh sb' bp' bw' bh' k : Nat} (A : Apt w0 base bb sb bp bw bh sb' bp' bw' bh') (hk : k = sb' ∨ k = bp' ∨ k = bw' ∨ k = bh') : k ≠ bb ∧ k ≠ bp ∧ k ≠ bh ∧ k < base := by
  have h1 := A.a bb (by simp)
  have h2 := A.a bp (by simp)
  have h3 := A.a bh (by simp)
  rcases hk with rfl | rfl | rfl | rfl
  · exact ⟨h1.1.symm, h2.1.symm, h3.1.symm, A.l1⟩
  · exact ⟨h1.2.1.symm, h2.2.1.symm, h3.2.1.symm, A.l2⟩
  · exact ⟨h1.2.2.1.symm, h2.2.2.1.symm, h3.2.2.1.symm, A.l3⟩
  · exact ⟨h1.2.2.2.symm, h2.2.2.2.symm, h3.2.2.2.symm, A.l4⟩
section
variable {w wr : World} {base bb sb bp bw bh sb' bp' bw' bh' : Nat} {j N N' : Nat} {m : Nat → Int} {out : List Int} {lamp : Int} {tr : List Acc} {vo vt : Value}
theorem Inv.stays {w' : World} (I : Inv w wr base bb sb bp bw bh sb' bp' bw' bh' j N N' m out lamp tr vo vt) (h : Below wr.heap.size wr w') : Inv w w' base bb sb bp bw bh sb' bp' bw' bh' j N N' m out lamp tr vo vt :=
  ⟨I.n1, I.n2, I.lo, I.lt, I.B.stays h, I.R.stays h (Nat.le_refl _), I.be.trans (h.mono I.be.size)⟩
theorem Inv.alloc (I : Inv w wr base bb sb bp bw bh sb' bp' bw' bh' j N N' m out lamp tr vo vt) (o : Obj) : Inv w (wr.alloc o) base bb sb bp bw bh sb' bp' bw' bh' j N N' m out lamp tr vo vt :=
  I.stays ((Below.refl _ _).alloc (Nat.le_refl _) o)
theorem Inv.drewN (I : Inv w wr base bb sb bp bw bh sb' bp' bw' bh' j N N' m out lamp tr vo vt) (n : Nat) : Inv w (wr.drewN n) base bb sb bp bw bh sb' bp' bw' bh' j N N' m out lamp tr vo vt :=
  I.stays (below_drewN (Below.refl _ _) n)
theorem Inv.next (I : Inv w wr base bb sb bp bw bh sb' bp' bw' bh' j N N' m out lamp tr vo vt) : Inv w wr base bb sb bp bw bh sb' bp' bw' bh' (j + 1) N N' m out lamp tr vo vt :=
  ⟨by have := I.n1; omega, by have := I.n2; omega, by have := I.lo; omega, by have := I.lt; omega, I.B, I.R, I.be⟩
/-- behind a device's act -/
theorem Inv.dev {w' : World} {out' : List Int} {lamp' : Int} {x : Acc} {vo' vt' : Value} (A : Apt w.heap.size base bb sb bp bw bh sb' bp' bw' bh') (I : Inv w wr base bb sb bp bw bh sb' bp' bw' bh' j N N' m out lamp tr vo vt) (B : BusIs w' base bb sb bp bw bh N m F0 F0 out' lamp' (tr ++ [x]) vo' vt') (t : BTurned wr w' bb bp bh vo vt) (hl : out'.length ≤ out.length + 1) : Inv w w' base bb sb bp bw bh sb' bp' bw' bh' (j + 1) N N' m out' lamp' (tr ++ [x]) vo' vt' := by
  have hv : ∀ k, k < base → vo.ownBlock ≠ some k ∧ vt.ownBlock ≠ some k := fun k hk => ⟨fun e => by have := (I.B.ro.lt k e).1; omega, fun e => by have := (I.B.rt.lt k e).1; omega⟩
  refine ⟨by have := I.n1; omega, by have := I.n2; omega, by have := I.lo; omega, by have := I.lt; simp; omega, B, I.R.blocks fun k hk => ?_, t.below (base := base) I.be (Nat.le_refl _) A.b1 A.b2 A.b3 (fun k e => by have := (I.B.ro.lt k e).1; have := A.w0; omega) (fun k e => by have := (I.B.rt.lt k e).1; have := A.w0; omega)⟩
  obtain ⟨h1, h2, h3, hb⟩ := A.ne hk
  exact t.block k (by have := I.B.bs; omega) h1 h2 h3 (hv k hb).1 (hv k hb).2
theorem F0_hit (p : Int) : (fun x => if x = p ∧ F0 p = true then true else F0 x) = F0 := by
  funext x; simp [F0]
/-- behind a store into both memories -/
theorem Inv.mem {w1 w2 : World} {m' : Nat → Int} (A : Apt w.heap.size base bb sb bp bw bh sb' bp' bw' bh') (I : Inv w wr base bb sb bp bw bh sb' bp' bw' bh' j N N' m out lamp tr vo vt) (B : BusIs w1 base bb sb bp bw bh (N + 2) m' F0 F0 out lamp tr vo vt) (t : Turned wr w1 bp bh) (R : RamIs w2 sb' bp' bw' bh' (N' + 2) m' F0 F0) (u : Turned w1 w2 bp' bh') : Inv w w2 base bb sb bp bw bh sb' bp' bw' bh' (j + 1) (N + 2) (N' + 2) m' out lamp tr vo vt := by
  refine ⟨by have := I.n1; omega, by have := I.n2; omega, by have := I.lo; omega, by have := I.lt; omega, B.turned u A.l2 A.l4 fun k hk => ⟨(A.a k hk).2.1, (A.a k hk).2.2.2⟩, R, u.below (t.below I.be (Nat.le_refl _) A.b2 A.b3) (Nat.le_refl _) A.r1 A.r2⟩
theorem Inv.other {w1 : World} {m' : Nat → Int} (A : Apt w.heap.size base bb sb bp bw bh sb' bp' bw' bh') (I : Inv w wr base bb sb bp bw bh sb' bp' bw' bh' j N N' m out lamp tr vo vt) (t : Turned wr w1 bp bh) : RamIs w1 sb' bp' bw' bh' N' m F0 F0 := by
  exact I.R.turned t (A.ne (Or.inl rfl)).2.1 (A.ne (Or.inl rfl)).2.2.1 (A.ne (Or.inr (Or.inl rfl))).2.1 (A.ne (Or.inr (Or.inl rfl))).2.2.1 (A.ne (Or.inr (Or.inr (Or.inl rfl)))).2.1 (A.ne (Or.inr (Or.inr (Or.inl rfl)))).2.2.1 (A.ne (Or.inr (Or.inr (Or.inr rfl)))).2.1 (A.ne (Or.inr (Or.inr (Or.inr rfl)))).2.2.1
/-- a variable of the round's own stays -/
theorem Inv.own (I : Inv w wr base bb sb bp bw bh sb' bp' bw' bh' j N N' m out lamp tr vo vt) {o : Obj} {w' : World} (t : BTurned (wr.alloc o) w' bb bp bh vo vt) (k : Nat) : w'.cell? ⟨wr.heap.size, k, none⟩ = (wr.alloc o).cell? ⟨wr.heap.size, k, none⟩ := by
  have h1 := I.B.lb
  have h2 := I.B.lp
  have h3 := I.B.lh
  have h4 := I.B.bs
  refine World.cell?_of_block (a := ⟨wr.heap.size, k, none⟩) (t.block wr.heap.size (by simp) (by omega) (by omega) (by omega) (fun e => ?_) (fun e => ?_))
  · have := (I.B.ro.lt _ e).2; omega
  · have := (I.B.rt.lt _ e).2; omega
end
end Go.Proofs.YtckcbnfobjmhpaaDoor
