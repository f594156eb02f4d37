/-
  What a step reads, and its small writes.
-/
import Derived.BigQuiet
import Derived.Test.YtflagpkmebdckaaGreatDoorQTab
import Derived.Test.YtflagpkmebdckaaGreatDoorKSerial
import Derived.Test.YtflagpkmebdckaaGreatDoorKSt0
import Derived.Test.YtflagpkmebdckaaGreatDoorKSt
import Derived.Test.YtflagpkmebdckaaGreatDoorKLayC
import Derived.Test.YtflagpkmebdckaaGreatDoorKSp
namespace Go.Proofs.YtflagpkmebdckaaGreatDoor
open Go.RowKit Go.Maps
open Num
set_option linter.unusedVariables false
theorem nk {k n : Nat} (h : k ≠ n) : ((k : Int) == (n : Int)) = false := by simp; omega
theorem immI_bd {k : Nat} {m : Int} (m0 : 0 ≤ m) (m1 : m < 4294967296) : u32 (immI k m) := by
  unfold immI; split
  · exact ⟨m0, m1⟩
  · exact wd_bd m0 m1 _
theorem St.set_ok {S : St} (o : S.ok) (n : Nat) {v : Int} (hv : u32 v) : (S.set n v).ok := by
  unfold St.set
  split
  · exact o
  · exact ⟨fun i => by show u32 (if i = n then v else S.r i); split; exact hv; exact o.r i, o.hi, o.lo, o.pc, o.nx, o.st, o.ca, o.ep, o.bd, o.cm, o.c0, o.c1⟩
theorem St.on_ok {S : St} (o : S.ok) : S.on.ok := ⟨o.r, o.hi, o.lo, o.nx, lo_bd _, o.st, o.ca, o.ep, o.bd, o.cm, o.c0, o.c1⟩
theorem St.jump_ok {S : St} (o : S.ok) {a : Int} (ha : u32 a) : (S.jump a).ok := ⟨o.r, o.hi, o.lo, ha, lo_bd _, o.st, o.ca, o.ep, o.bd, o.cm, o.c0, o.c1⟩
section
variable {w : World} {pb sb bb : Nat} {S : St} {k s t d : Nat} {m : Int}
set_option maxHeartbeats 1000000 in
theorem bad_any (c : Cp w pb sb bb S k s t d m) (e a : Int) : Calls Tryz.prog 89 #[.pointer (some ⟨pb, 0, none⟩), .int .i64 e, .int .u32 a] w fun e' w' => e' = .returned (.int .i64 e) ∧ StAt w' sb { S with bd := a } ∧ Kept w w' (· = sb) := by
  have p0 := c.p.p0
  have q40 := c.a.told.2.2.2.2.2.2.2.2.1
  have f40 := c.a.fz 40
  have A := c.a.putBd a
  clear c
  go_enter Tryz.func89, Tryz.ntmps89
  go_wp2
  go_ret
  exact ⟨rfl, A, Kept.setCell _ _ _ _ rfl⟩
set_option maxHeartbeats 1000000 in
theorem set_any (c : Cp w pb sb bb S k s t d m) (n : Nat) (hn : n < 32) (v : Int) : Calls Tryz.prog 161 #[.pointer (some ⟨pb, 0, none⟩), .int .i64 n, .int .u32 v] w fun e w' => e = .returned (.tuple #[]) ∧ StAt w' sb (S.set n v) ∧ Kept w w' (· = sb) := by
  have p0 := c.p.p0
  have qn := c.a.reg hn
  have fn := c.a.fz n
  by_cases h : n = 0
  · subst h
    have A : StAt w sb (S.set 0 v) := c.a
    clear c
    go_enter Tryz.func161, Tryz.ntmps161
    go_wp2
    go_end0
    exact ⟨rfl, A, Kept.refl _ _⟩
  · have A : StAt (w.setCell ⟨sb, n, none⟩ (.int .u32 v)) sb (S.set n v) := by unfold St.set; rw [if_neg h]; exact c.a.putR n hn v
    have hb : ((n : Int) != 0) = true := by simp; omega
    have hn' : (n : Int) < 32 := by omega
    clear c
    go_enter Tryz.func161, Tryz.ntmps161
    go_wp2
    go_end0
    exact ⟨rfl, A, Kept.setCell _ _ _ _ rfl⟩
set_option maxHeartbeats 1000000 in
theorem jump_any (c : Cp w pb sb bb S k s t d m) (a : Int) (ha : u32 a) : Calls Tryz.prog 97 #[.pointer (some ⟨pb, 0, none⟩), .int .u32 a] w fun e w' => e = .returned (.tuple #[]) ∧ StAt w' sb (S.jump a) ∧ Kept w w' (· = sb) := by
  have p0 := c.p.p0
  obtain ⟨_, _, q34, q35, q36, _⟩ := c.a.told
  have f34 := c.a.fz 34
  have f35 := c.a.fz 35
  have f36 := c.a.fz 36
  have A := ((c.a.drew.putPc a).putNx (Num.lo (a + 4))).putSl false
  have T : Kept w (((w.drew.setCell ⟨sb, 34, none⟩ (.int .u32 a)).setCell ⟨sb, 35, none⟩ (.int .u32 (Num.lo (a + 4)))).setCell ⟨sb, 36, none⟩ (.bool false)) (· = sb) :=
    (((Kept.drew w _).put 34 _).put 35 _).put 36 _
  unfold Num.lo at A T
  clear c
  go_enter Tryz.func97, Tryz.ntmps97
  go_upto_region 0 with fail
  refine wp_region_phase 17 [(0, 0), (1, 0), (2, 0), (3, 1), (4, 0), (5, 0), (6, 0), (7, 1), (8, 0), (9, 0), (10, 0), (11, 1), (12, 0), (13, 0), (14, 0), (15, 0), (16, 0), (17, 2), (18, 0), (19, 0), (20, 2), (21, 0), (22, 0), (23, 2)] (fun W => W.cell? ⟨pb, 0, none⟩ = some (.pointer (some ⟨sb, 0, none⟩))) (by kernel_rfl) (by kernel_rfl) (fun _ _ _ d _ h => by cases d <;> exact h) p0 ?_
  repeat (first | (refine wpPlanZ_free (by rfl) (by rfl) (fun W => by (go_simp; try with_reducible rfl)) (fun K hK => ?_); go_simp; refine hK _ ?_; clear hK K) | (refine wpPlanZ_quiet (by rfl) (by rfl) (fun W hW => by (have p0 := hW; go_simp; try with_reducible rfl)) (fun K hK => ?_); go_simp; refine hK _ ?_; clear hK K))
  refine wpPlanZ_serial (by rfl) (by rfl) (fun K hK => ?_)
  go_simp
  refine hK _ _ (fun h => absurd h (by decide)) ?_
  clear hK K
  repeat (first | (refine wpPlanZ_free (by rfl) (by rfl) (fun W => by (go_simp; try with_reducible rfl)) (fun K hK => ?_); go_simp; refine hK _ ?_; clear hK K) | (refine wpPlanZ_quiet (by rfl) (by rfl) (fun W hW => by (have p0 := hW; go_simp; try with_reducible rfl)) (fun K hK => ?_); go_simp; refine hK _ ?_; clear hK K))
  refine wpPlanZ_serial (by rfl) (by rfl) (fun K hK => ?_)
  go_simp
  refine hK _ _ (fun h => absurd h (by decide)) ?_
  clear hK K
  repeat (first | (refine wpPlanZ_free (by rfl) (by rfl) (fun W => by (go_simp; try with_reducible rfl)) (fun K hK => ?_); go_simp; refine hK _ ?_; clear hK K) | (refine wpPlanZ_quiet (by rfl) (by rfl) (fun W hW => by (have p0 := hW; go_simp; try with_reducible rfl)) (fun K hK => ?_); go_simp; refine hK _ ?_; clear hK K))
  refine wpPlanZ_serial (by rfl) (by rfl) (fun K hK => ?_)
  go_simp
  refine hK _ _ (fun h => absurd h (by decide)) ?_
  clear hK K
  refine wpPlanZ_nil ?_
  go_wp2
  go_end0
  exact ⟨rfl, A, T⟩
set_option maxHeartbeats 1000000 in
theorem goOn_any (c : Cp w pb sb bb S k s t d m) : Calls Tryz.prog 164 #[.pointer (some ⟨pb, 0, none⟩)] w fun e w' => e = .returned (.int .i64 (-1)) ∧ StAt w' sb S.on ∧ Kept w w' (· = sb) := by
  have p0 := c.p.p0
  obtain ⟨_, _, q34, q35, q36, _⟩ := c.a.told
  have f34 := c.a.fz 34
  have f35 := c.a.fz 35
  have f36 := c.a.fz 36
  have A := ((c.a.drew.putPc S.nx).putNx (Num.lo (S.nx + 4))).putSl false
  have T : Kept w (((w.drew.setCell ⟨sb, 34, none⟩ (.int .u32 S.nx)).setCell ⟨sb, 35, none⟩ (.int .u32 (Num.lo (S.nx + 4)))).setCell ⟨sb, 36, none⟩ (.bool false)) (· = sb) :=
    (((Kept.drew w _).put 34 _).put 35 _).put 36 _
  unfold Num.lo at A T
  clear c
  go_enter Tryz.func164, Tryz.ntmps164
  go_upto_region 1 with fail
  refine wp_region_phase 29 [(0, 0), (1, 0), (2, 0), (3, 1), (4, 0), (5, 0), (6, 0), (7, 1), (8, 0), (9, 0), (10, 0), (11, 1), (12, 0), (13, 0), (14, 0), (15, 1), (16, 0), (17, 0), (18, 1), (19, 0), (20, 0), (21, 0), (22, 1), (23, 0), (24, 0), (25, 1), (26, 0), (27, 0), (28, 0), (29, 2), (30, 0), (31, 0), (32, 2), (33, 0), (34, 0), (35, 2)] (fun W => W.cell? ⟨pb, 0, none⟩ = some (.pointer (some ⟨sb, 0, none⟩)) ∧ W.cell? ⟨sb, 35, none⟩ = some (.int .u32 S.nx)) (by kernel_rfl) (by kernel_rfl) (fun _ _ _ d _ h => by cases d <;> exact h) ⟨p0, q35⟩ ?_
  repeat (first | (refine wpPlanZ_free (by rfl) (by rfl) (fun W => by (go_simp; try with_reducible rfl)) (fun K hK => ?_); go_simp; refine hK _ ?_; clear hK K) | (refine wpPlanZ_quiet (by rfl) (by rfl) (fun W hW => by (obtain ⟨p0, q35⟩ := hW; go_simp; try with_reducible rfl)) (fun K hK => ?_); go_simp; refine hK _ ?_; clear hK K))
  refine wpPlanZ_serial (by rfl) (by rfl) (fun K hK => ?_)
  go_simp
  refine hK _ _ (fun h => absurd h (by decide)) ?_
  clear hK K
  repeat (first | (refine wpPlanZ_free (by rfl) (by rfl) (fun W => by (go_simp; try with_reducible rfl)) (fun K hK => ?_); go_simp; refine hK _ ?_; clear hK K) | (refine wpPlanZ_quiet (by rfl) (by rfl) (fun W hW => by (obtain ⟨p0, q35⟩ := hW; go_simp; try with_reducible rfl)) (fun K hK => ?_); go_simp; refine hK _ ?_; clear hK K))
  refine wpPlanZ_serial (by rfl) (by rfl) (fun K hK => ?_)
  go_simp
  refine hK _ _ (fun h => absurd h (by decide)) ?_
  clear hK K
  repeat (first | (refine wpPlanZ_free (by rfl) (by rfl) (fun W => by (go_simp; try with_reducible rfl)) (fun K hK => ?_); go_simp; refine hK _ ?_; clear hK K) | (refine wpPlanZ_quiet (by rfl) (by rfl) (fun W hW => by (obtain ⟨p0, q35⟩ := hW; go_simp; try with_reducible rfl)) (fun K hK => ?_); go_simp; refine hK _ ?_; clear hK K))
  refine wpPlanZ_serial (by rfl) (by rfl) (fun K hK => ?_)
  go_simp
  refine hK _ _ (fun h => absurd h (by decide)) ?_
  clear hK K
  refine wpPlanZ_nil ?_
  go_wp2
  go_ret
  exact ⟨rfl, A, T⟩
end
end Go.Proofs.YtflagpkmebdckaaGreatDoor
/-
  A state that came in.
-/
namespace Go.Proofs.YtflagpkmebdckaaGreatDoor
open Go.ChangeShapes Go.WideShapes Go.ChangeAt Go.RowKit
open Num
set_option linter.unusedVariables false
theorem c30 : Tryz.prog.cellsOf 23 = 32 := by kernel_rfl
theorem c32' : Tryz.prog.cellsOf 25 = 43 := by kernel_rfl
theorem c23' : Tryz.prog.cellsOf 22 = 1 := by kernel_rfl
theorem take_one {l : List Value} {k : Nat} {x : Value} (h : (l.drop k).take 1 = [x]) : l[k]? = some x := by
  have h2 : ((l.drop k).take 1)[0]? = some x := by rw [h]; rfl
  rw [List.getElem?_take_of_lt (by omega), List.getElem?_drop] at h2
  simpa using h2
def iv (v : Option Value) : Int := match v with | some (.int _ n) => n | _ => 0
def bv (v : Option Value) : Bool := match v with | some (.bool x) => x | _ => false
def stOf (cs : Array Value) : St := ⟨fun i => if i < 32 then iv cs[i]? else 0, iv cs[32]?, iv cs[33]?, iv cs[34]?, iv cs[35]?, bv cs[36]?, iv cs[37]?, iv cs[38]?, iv cs[39]?, iv cs[40]?, iv cs[41]?, iv cs[42]?⟩
set_option maxRecDepth 100000 in
theorem open_st {H : Type} {enc : TypeId × Value → H} {W : World} {base : Nat} {sp : Nat → Bool} {held : Bool} {r : Reach} {b0 : Nat} {v : Value} {d : DataW H} {p : List MemPlace} (hv : Value.okWide Tryz.prog W r b0 25 v) (h : DataW.Trod enc Tryz.prog W base sp held 25 v d p) :
    ∃ S : St, v = .agg (stA S) ∧ (0 ≤ S.ct → S.ct ≤ 1099511627776 → S.ok) ∧ -9223372036854775808 ≤ S.ct ∧ S.ct ≤ 9223372036854775807 := by
  obtain ⟨cs, rfl, hsz⟩ := okWide_struct Tryz.underlying25 hv
  rw [c32'] at hsz
  obtain ⟨fuel, hf⟩ := h
  obtain ⟨xs, n, _, hx, hl, hlen, hg⟩ := DataW.trod_struct Tryz.underlying25 hf
  have hget : ∀ i (hi : i < 12), ∃ y, xs[i]? = some y := fun i hi => by
    have : i < xs.length := by rw [hlen]; exact hi
    exact ⟨_, List.getElem?_eq_getElem this⟩
  have word : ∀ (i o : Nat), (∃ y, DataW.trod enc Tryz.prog W base sp held n 22 ((cs.toList.drop o).take 1) = some y) → ∃ z : Int, cs[o]? = some (.int .u32 z) ∧ u32 z := by
    intro i o ⟨y, hy⟩
    obtain ⟨z, e, _, w⟩ := DataW.trod_int Tryz.underlying22 hy
    have := take_one e
    rw [Array.getElem?_toList] at this
    exact ⟨z, this, bd_u32 w⟩
  have hr : ∀ i, i < 32 → ∃ z : Int, cs[i]? = some (.int .u32 z) ∧ u32 z := by
    obtain ⟨y, hy⟩ := hget 0 (by omega)
    have g := hg 0 _ rfl
    rw [hy] at g
    obtain ⟨ys, m, _, _, _, hl2, hg2⟩ := DataW.trod_array Tryz.underlying23 g
    intro i hi
    have g2 := hg2 i hi
    have : i < ys.length := by rw [hl2]; exact hi
    rw [List.getElem?_eq_getElem this, c23', Nat.mul_one] at g2
    obtain ⟨z, e, _, w⟩ := DataW.trod_int Tryz.underlying22 g2
    have h1 := take_one e
    simp only [Value.cells] at h1
    rw [List.getElem?_take_of_lt (by show i < Tryz.prog.cellsOf 23; rw [c30]; exact hi)] at h1
    rw [List.getElem?_drop] at h1
    exact ⟨z, by simpa using h1, bd_u32 w⟩
  obtain ⟨z32, e32, b32⟩ : ∃ z : Int, cs[32]? = some (.int .u32 z) ∧ u32 z := by
    obtain ⟨y, hy⟩ := hget 1 (by omega)
    exact word 1 32 ⟨y, by have g := hg 1 _ rfl; rw [hy] at g; exact g⟩
  obtain ⟨z33, e33, b33⟩ : ∃ z : Int, cs[33]? = some (.int .u32 z) ∧ u32 z := by
    obtain ⟨y, hy⟩ := hget 2 (by omega)
    exact word 2 33 ⟨y, by have g := hg 2 _ rfl; rw [hy] at g; exact g⟩
  obtain ⟨z34, e34, b34⟩ : ∃ z : Int, cs[34]? = some (.int .u32 z) ∧ u32 z := by
    obtain ⟨y, hy⟩ := hget 3 (by omega)
    exact word 3 34 ⟨y, by have g := hg 3 _ rfl; rw [hy] at g; exact g⟩
  obtain ⟨z35, e35, b35⟩ : ∃ z : Int, cs[35]? = some (.int .u32 z) ∧ u32 z := by
    obtain ⟨y, hy⟩ := hget 4 (by omega)
    exact word 4 35 ⟨y, by have g := hg 4 _ rfl; rw [hy] at g; exact g⟩
  obtain ⟨z36, e36⟩ : ∃ z : Bool, cs[36]? = some (.bool z) := by
    obtain ⟨y, hy⟩ := hget 5 (by omega)
    have g := hg 5 _ rfl
    rw [hy] at g
    obtain ⟨z, e, _⟩ := DataW.trod_bool Tryz.underlying4 g
    have := take_one (l := cs.toList) (k := 36) e
    rw [Array.getElem?_toList] at this
    exact ⟨z, this⟩
  obtain ⟨z37, e37, b37⟩ : ∃ z : Int, cs[37]? = some (.int .u32 z) ∧ u32 z := by
    obtain ⟨y, hy⟩ := hget 6 (by omega)
    exact word 6 37 ⟨y, by have g := hg 6 _ rfl; rw [hy] at g; exact g⟩
  obtain ⟨z38, e38, b38⟩ : ∃ z : Int, cs[38]? = some (.int .u32 z) ∧ u32 z := by
    obtain ⟨y, hy⟩ := hget 7 (by omega)
    exact word 7 38 ⟨y, by have g := hg 7 _ rfl; rw [hy] at g; exact g⟩
  obtain ⟨z39, e39, b39⟩ : ∃ z : Int, cs[39]? = some (.int .u32 z) ∧ u32 z := by
    obtain ⟨y, hy⟩ := hget 8 (by omega)
    exact word 8 39 ⟨y, by have g := hg 8 _ rfl; rw [hy] at g; exact g⟩
  obtain ⟨z40, e40, b40⟩ : ∃ z : Int, cs[40]? = some (.int .u32 z) ∧ u32 z := by
    obtain ⟨y, hy⟩ := hget 9 (by omega)
    exact word 9 40 ⟨y, by have g := hg 9 _ rfl; rw [hy] at g; exact g⟩
  obtain ⟨z41, e41, b41⟩ : ∃ z : Int, cs[41]? = some (.int .u32 z) ∧ u32 z := by
    obtain ⟨y, hy⟩ := hget 10 (by omega)
    exact word 10 41 ⟨y, by have g := hg 10 _ rfl; rw [hy] at g; exact g⟩
  obtain ⟨z42, e42, b42⟩ : ∃ z : Int, cs[42]? = some (.int .i64 z) ∧ (-9223372036854775808 ≤ z ∧ z ≤ 9223372036854775807) := by
    obtain ⟨y, hy⟩ := hget 11 (by omega)
    have g := hg 11 _ rfl
    rw [hy] at g
    obtain ⟨z, e, _, w⟩ := DataW.trod_int Tryz.underlying3 g
    have := take_one (l := cs.toList) (k := 42) e
    rw [Array.getElem?_toList] at this
    exact ⟨z, this, bd_i64 w⟩
  refine ⟨stOf cs, ?_, fun h0 h1 => ?_, ?_, ?_⟩
  · congr 1
    apply Array.ext_getElem?
    intro j
    by_cases hj : j < 43
    · rw [stA_get _ hj]
      unfold stV
      by_cases h32 : j < 32
      · rw [if_pos h32]
        obtain ⟨z, e, _⟩ := hr j h32
        show cs[j]? = some (Value.int .u32 (if j < 32 then iv cs[j]? else 0))
        rw [if_pos h32, e]; rfl
      · rw [if_neg h32]
        have hj' : j = 32 ∨ j = 33 ∨ j = 34 ∨ j = 35 ∨ j = 36 ∨ j = 37 ∨ j = 38 ∨ j = 39 ∨ j = 40 ∨ j = 41 ∨ j = 42 := by omega
        rcases hj' with rfl | rfl | rfl | rfl | rfl | rfl | rfl | rfl | rfl | rfl | rfl <;> simp [stOf, e32, e33, e34, e35, e36, e37, e38, e39, e40, e41, e42, iv, bv]
    · rw [Array.getElem?_eq_none (by omega), Array.getElem?_eq_none (by rw [show (stA (stOf cs)).size = 43 by simp [stA, stL]]; omega)]
  · have h0' : 0 ≤ z42 := by simpa [stOf, e42, iv] using h0
    have h1' : z42 ≤ 1099511627776 := by simpa [stOf, e42, iv] using h1
    refine ⟨fun i => ?_, ?_, ?_, ?_, ?_, ?_, ?_, ?_, ?_, ?_, ?_, ?_⟩
    · show u32 (if i < 32 then iv cs[i]? else 0)
      split
      · rename_i hi
        obtain ⟨z, e, b⟩ := hr i hi
        rw [e]; exact b
      · exact ⟨by omega, by omega⟩
    · show u32 (iv cs[32]?); rw [e32]; exact b32
    · show u32 (iv cs[33]?); rw [e33]; exact b33
    · show u32 (iv cs[34]?); rw [e34]; exact b34
    · show u32 (iv cs[35]?); rw [e35]; exact b35
    · show u32 (iv cs[37]?); rw [e37]; exact b37
    · show u32 (iv cs[38]?); rw [e38]; exact b38
    · show u32 (iv cs[39]?); rw [e39]; exact b39
    · show u32 (iv cs[40]?); rw [e40]; exact b40
    · show u32 (iv cs[41]?); rw [e41]; exact b41
    · show _ ≤ iv cs[42]?; rw [e42]; show _ ≤ z42; omega
    · show iv cs[42]? < _; rw [e42]; show z42 < _; omega
  · show _ ≤ iv cs[42]?; rw [e42]; exact b42.1
  · show iv cs[42]? ≤ _; rw [e42]; exact b42.2
end Go.Proofs.YtflagpkmebdckaaGreatDoor
/-
  What is to be seen of a bus.
-/
namespace Go.Proofs.YtflagpkmebdckaaGreatDoor
open Go.RowKit Go.Maps
open Num
set_option linter.unusedVariables false
/-- what is to be seen of a bus -/
structure BusSeen (w : World) (bx by_ bb sb bp bw bh N : Nat) (m : Nat → Int) (wt ht : Int → Bool) (out : List Int) (lamp : Int) (tr : List Acc) (vo vt : Value) : Prop where
  c0 : w.cell? ⟨bb, 0, none⟩ = some (.pointer (some ⟨sb, 0, none⟩))
  c1 : w.cell? ⟨bb, 1, none⟩ = some vo
  c2 : w.cell? ⟨bb, 2, none⟩ = some (.int .u32 lamp)
  c3 : w.cell? ⟨bb, 3, none⟩ = some vt
  ro : w.ownsRow bx 5 1 vo out.length (outC out)
  rt : w.ownsRow by_ 187 4 vt tr.length (tr.flatMap accC)
  R : RamIs w sb bp bw bh N m wt ht
theorem BusIs.seen {w : World} {base bb sb bp bw bh N : Nat} {m : Nat → Int} {wt ht : Int → Bool} {out : List Int} {lamp : Int} {tr : List Acc} {vo vt : Value} (B : BusIs w base bb sb bp bw bh N m wt ht out lamp tr vo vt) : BusSeen w base base bb sb bp bw bh N m wt ht out lamp tr vo vt := ⟨B.c0, B.c1, B.c2, B.c3, B.ro, B.rt, B.R⟩
theorem BusSeen.stays {w w' : World} {bx by_ bb sb bp bw bh N : Nat} {m : Nat → Int} {wt ht : Int → Bool} {out : List Int} {lamp : Int} {tr : List Acc} {vo vt : Value} (B : BusSeen w bx by_ bb sb bp bw bh N m wt ht out lamp tr vo vt) (h : Below w.heap.size w w') : BusSeen w' bx by_ bb sb bp bw bh N m wt ht out lamp tr vo vt := by
  have hs := h.block bb (World.block_lt_of_cell? _ _ B.c0)
  have c : ∀ (j : Nat) (v : Value), w.cell? ⟨bb, j, none⟩ = some v → w'.cell? ⟨bb, j, none⟩ = some v := fun j v e => (World.cell?_of_block (a := ⟨bb, j, none⟩) hs).trans e
  exact ⟨c _ _ B.c0, c _ _ B.c1, c _ _ B.c2, c _ _ B.c3, owns_blocks B.ro (fun k e => h.block k (B.ro.lt k e).2), owns_blocks B.rt (fun k e => h.block k (B.rt.lt k e).2), B.R.stays h (Nat.le_refl _)⟩
section
variable {w : World} {bx by_ bb sb bp bw bh N : Nat} {m : Nat → Int} {wt ht : Int → Bool} {out : List Int} {lamp : Int} {tr : List Acc} {vo vt : Value} {base' db rb gb kb : Nat} {vt' : Value}
theorem seenTrace_any (B : BusSeen w bx by_ bb sb bp bw bh N m wt ht out lamp tr vo vt) (hn : tr.length ≤ 1000) :
    Calls Tryz.prog 56 #[.pointer (some ⟨bb, 0, none⟩)] w fun e w' => ∃ ao cap, e = .returned (.slice ao tr.length cap) ∧ w'.ownsRow w.heap.size 187 4 (.slice ao tr.length cap) tr.length (tr.flatMap accC) ∧ Below w.heap.size w w' := by
  have hcl := clone55 B.rt hn (acc_one tr)
  have c3 := B.c3
  obtain ⟨ao', cap', hv⟩ : ∃ ao' cap', vt = .slice ao' tr.length cap' := by
    rcases B.rt.2 with ⟨e, h⟩ | ⟨g, cap, cur, e, _⟩
    · exact ⟨none, 0, by rw [e, h]⟩
    · exact ⟨_, cap, e⟩
  subst hv
  clear B
  go_enter Tryz.func56, Tryz.ntmps56
  go_wp2_with fail
  refine hcl.mono ?_
  rintro e w1 ⟨ao, cap, rfl, ho, hb⟩
  clear hcl
  go_wp2
  go_ret
  exact ⟨ao, cap, rfl, ho, hb⟩
theorem seenOut_any (B : BusSeen w bx by_ bb sb bp bw bh N m wt ht out lamp tr vo vt) : Calls Tryz.prog 53 #[.pointer (some ⟨bb, 0, none⟩)] w fun e w' => e = .returned (.string (outS out)) ∧ w' = w := by
  have c1 := B.c1
  have hcv : (convert 92 9 vo).run Tryz.prog w = .ok (.string (outS out)) w := by
    rcases B.ro.2 with ⟨e, h⟩ | ⟨g, cap, cur, e, _⟩
    · have : out = [] := List.eq_nil_of_length_eq_zero h
      subst this
      rw [e, run_convert_bytes_nil w 92 5 Tryz.underlying92 Tryz.underlying5 0 0 9 Tryz.underlying9]
      rfl
    · rw [e]
      refine run_convert_bytes_arg w 92 5 Tryz.underlying92 Tryz.underlying5 g 0 out.length cap out rfl (fun i hi => ?_) 9 Tryz.underlying9
      have := B.ro.cells (g := g) (by rw [e]; rfl) i _ (outC_get out i hi)
      rw [add_lit] at this
      rw [Nat.zero_add]; exact this
  obtain ⟨ao', n', cap', hv⟩ : ∃ ao' n' cap', vo = .slice ao' n' cap' := by
    rcases B.ro.2 with ⟨e, h⟩ | ⟨g, cap, cur, e, _⟩
    · exact ⟨none, 0, 0, by rw [e]⟩
    · exact ⟨_, _, cap, e⟩
  subst hv
  clear B
  generalize outS out = os at *
  go_enter Tryz.func53, Tryz.ntmps53
  go_wp2
  go_ret
  exact ⟨rfl, rfl⟩
theorem seenRam_any (B : BusSeen w bx by_ bb sb bp bw bh N m wt ht out lamp tr vo vt) : Calls Tryz.prog 10 #[.pointer (some ⟨bb, 0, none⟩)] w fun e w' => e = .returned (.pointer (some ⟨sb, 0, none⟩)) ∧ w' = w := by
  have c0 := B.c0
  clear B
  go_enter Tryz.func10, Tryz.ntmps10
  go_wp2
  go_ret
  exact ⟨rfl, rfl⟩
end
end Go.Proofs.YtflagpkmebdckaaGreatDoor
/-
  A bus in one word: what a store and a load make of it, of the program's and of the document's.
-/
namespace Go.Proofs.YtflagpkmebdckaaGreatDoor
open Go.RowKit Go.Maps
open Num
set_option linter.unusedVariables false
structure Bs where
  m : Nat → Int
  out : List Int
  lamp : Int
  tr : List Acc
/-- does an access go wrong? -/
def bad (a s : Int) : Bool := !dev a s && decide (chk a s ≠ 0)
def Bs.put (b : Bs) (a s v c : Int) : Bs := if dev a s = true then ⟨b.m, outN b.out a v, lampN b.lamp a v, b.tr ++ [⟨c, true, a, v⟩]⟩ else if chk a s = 0 then ⟨upd b.m a s v, b.out, b.lamp, b.tr⟩ else b
def Bs.got (b : Bs) (a s c : Int) : Bs := if dev a s = true then ⟨b.m, b.out, b.lamp, b.tr ++ [⟨c, false, a, devV a c b.lamp⟩]⟩ else b
def Bs.val (b : Bs) (a s : Int) (sg : Bool) (c : Int) : Int := if dev a s = true then devV a c b.lamp else if chk a s = 0 then ld b.m a s sg else 0
/-- the error that is told -/
def erB (ps pa pf : Addr) (a s : Int) : Value := if bad a s = true then .iface 332 (.pointer (some (erA ps pa pf (chk a s)))) else .nilIface
theorem Bs.put_out (b : Bs) (a s v c : Int) : (b.put a s v c).out.length ≤ b.out.length + 1 := by
  unfold Bs.put
  split
  · show (outN b.out a v).length ≤ _
    unfold outN; split <;> simp
  · split
    · show b.out.length ≤ _; omega
    · omega
theorem Bs.put_tr (b : Bs) (a s v c : Int) : (b.put a s v c).tr.length ≤ b.tr.length + 1 := by
  unfold Bs.put
  split
  · show (b.tr ++ [_]).length ≤ _; simp
  · split
    · show b.tr.length ≤ _; omega
    · omega
theorem Bs.got_tr (b : Bs) (a s c : Int) : (b.got a s c).tr.length ≤ b.tr.length + 1 := by
  unfold Bs.got
  split
  · show (b.tr ++ [_]).length ≤ _; simp
  · omega
theorem Bs.got_out (b : Bs) (a s c : Int) : (b.got a s c).out = b.out := by unfold Bs.got; split <;> rfl
section
variable {w : World} {base bb sb bp bw bh N : Nat} {b : Bs} {vo vt : Value}
theorem store_all (ps pa pf : Addr) (E : Er ps pa pf w) (B : BusIs w base bb sb bp bw bh N b.m F0 F0 b.out b.lamp b.tr vo vt) (a s v c : Int) (h0 : 0 ≤ a) (h1 : a < 4294967296) (s0 : -9223372036854775808 ≤ s) (s1 : s ≤ 9223372036854775807) (v0 : 0 ≤ v) (v1 : v < 4294967296) (c0 : -9223372036854775808 ≤ c) (c1 : c ≤ 9223372036854775807) (hn : b.out.length ≤ 1000) (hn2 : b.tr.length ≤ 1000) (hN : N + 1 < maxLen) :
    Calls Tryz.prog 165 #[.pointer (some ⟨bb, 0, none⟩), .int .u32 a, .int .i64 s, .int .u32 v, .int .i64 c] w fun e w' => e = .returned (erB ps pa pf a s) ∧ ∃ N' vo' vt', N' ≤ N + 2 ∧ BusIs w' base bb sb bp bw bh N' (b.put a s v c).m F0 F0 (b.put a s v c).out (b.put a s v c).lamp (b.put a s v c).tr vo' vt' ∧ BTurned w w' bb bp bh vo vt ∧ Moved w vo vo' ∧ Moved w vt vt' := by
  by_cases hd : dev a s = true
  · refine (store_dev B a s v c h0 h1 s0 s1 v0 v1 c0 c1 hn hn2 hd).mono ?_
    rintro e w' ⟨rfl, vo', vt', B', T, M1, M2⟩
    refine ⟨by simp [erB, bad, hd], N, vo', vt', by omega, ?_, T, M1, M2⟩
    unfold Bs.put; rw [if_pos hd]; exact B'
  · have hd' : dev a s = false := by simpa using hd
    by_cases hc : chk a s = 0
    · have hs := store_mem B a s v c h0 h1 s0 s1 v0 v1 hN hc
      rw [F0_hit] at hs
      refine hs.mono ?_
      rintro e w' ⟨rfl, B', T⟩
      refine ⟨by simp [erB, bad, hd', hc], N + 2, vo, vt, by omega, ?_, BTurned.of_turned T, Moved.refl _ _, Moved.refl _ _⟩
      unfold Bs.put; rw [if_neg hd, if_pos hc]; exact B'
    · refine (store_bad ps pa pf E B a s v c h0 h1 s0 s1 hc hd').mono ?_
      rintro e w' ⟨rfl, rfl⟩
      refine ⟨by simp [erB, bad, hd', hc], N, vo, vt, by omega, ?_, BTurned.refl _ _ _ _ _ _, Moved.refl _ _, Moved.refl _ _⟩
      unfold Bs.put; rw [if_neg hd, if_neg hc]; exact B
theorem load_all (ps pa pf : Addr) (E : Er ps pa pf w) (B : BusIs w base bb sb bp bw bh N b.m F0 F0 b.out b.lamp b.tr vo vt) (a s c : Int) (sg : Bool) (h0 : 0 ≤ a) (h1 : a < 4294967296) (s0 : -9223372036854775808 ≤ s) (s1 : s ≤ 9223372036854775807) (c0 : -9223372036854775808 ≤ c) (c1 : c ≤ 9223372036854775807) (hn2 : b.tr.length ≤ 1000) :
    Calls Tryz.prog 163 #[.pointer (some ⟨bb, 0, none⟩), .int .u32 a, .int .i64 s, .bool sg, .int .i64 c] w fun e w' => e = .returned (.tuple #[.int .u32 (b.val a s sg c), erB ps pa pf a s]) ∧ ∃ vt', BusIs w' base bb sb bp bw bh N (b.got a s c).m F0 F0 (b.got a s c).out (b.got a s c).lamp (b.got a s c).tr vo vt' ∧ BTurned w w' bb bp bh vo vt ∧ Moved w vt vt' := by
  by_cases hd : dev a s = true
  · refine (load_dev B a s c sg h0 h1 s0 s1 c0 c1 hn2 hd).mono ?_
    rintro e w' ⟨rfl, vt', B', T, M2⟩
    refine ⟨by simp [erB, bad, hd, Bs.val], vt', ?_, T, M2⟩
    unfold Bs.got; rw [if_pos hd]; exact B'
  · have hd' : dev a s = false := by simpa using hd
    by_cases hc : chk a s = 0
    · refine (load_mem B a s c sg h0 h1 s0 s1 hc).mono ?_
      rintro e w' ⟨rfl, k, rfl⟩
      have hb := below_drewN (Below.refl w.heap.size w) k
      refine ⟨by simp [erB, bad, hd', hc, Bs.val], vt, ?_, BTurned.of_below hb, Moved.refl _ _⟩
      unfold Bs.got; rw [if_neg hd]; exact B.stays hb
    · refine (load_bad ps pa pf E B a s c sg h0 h1 s0 s1 hc hd').mono ?_
      rintro e w' ⟨rfl, rfl⟩
      refine ⟨by simp [erB, bad, hd', hc, Bs.val], vt, ?_, BTurned.refl _ _ _ _ _ _, Moved.refl _ _⟩
      unfold Bs.got; rw [if_neg hd]; exact B
end
section
variable {w : World} {base db rb gb kb : Nat} {b : Bs} {vd : Value}
end
end Go.Proofs.YtflagpkmebdckaaGreatDoor
/-
  What a processor's step makes of a state and a bus, in whole numbers.
-/
namespace Go.Proofs.YtflagpkmebdckaaGreatDoor
open Num
set_option linter.unusedVariables false
def fromP (S : St) (t d : Nat) : Int × St :=
  if d = 8 then (-1, (S.set t S.bd).on) else if d = 9 then (-1, (S.set t (lo S.ct)).on) else if d = 11 then (-1, (S.set t S.cm).on) else if d = 12 then (-1, (S.set t S.st).on) else if d = 13 then (-1, (S.set t S.ca).on) else if d = 14 then (-1, (S.set t S.ep).on) else (10, S)
def toP (S : St) (t d : Nat) : Int × St :=
  if d = 11 then (-1, St.on { S with cm := S.r t }) else if d = 12 then (-1, St.on { S with st := bits .and .u32 (S.r t) 3 }) else if d = 14 then (-1, St.on { S with ep := S.r t }) else (10, S)
def backP (S : St) : Int × St := if bits .and .u32 S.st 2 = 0 ∨ S.sl = true then (10, S) else (-1, { S.jump S.ep with st := bits .andNot .u32 S.st 2 })
def trapP (S : St) (k t d : Nat) : Int × St := if k = 9 then (8, S) else if k = 10 then (9, S) else if k = 43 then fromP S t d else if k = 44 then toP S t d else if k = 45 then backP S else (10, S)
def intB (S : St) : Bool := decide (S.cm ≠ 0) && decide (S.cm ≤ S.ct) && decide (bits .and .u32 S.st 3 = 1)
def exc1 (S : St) : St := if bits .and .u32 S.st 2 = 0 then (if S.sl = true then { S with ep := lo (S.pc - 4), ca := 2147483648 } else { S with ep := S.pc, ca := 0 }) else S
def sh4 (e : Int) : Int := IntKind.u32.wrap (IntKind.u32.wrap e * 4)
def excP (S : St) (e : Int) : St := St.jump { exc1 S with ca := bits .or .u32 (bits .andNot .u32 (exc1 S).ca 124) (sh4 e), st := bits .or .u32 S.st 2 } 384
/-- the operation of a word -/
def decK (v : Int) : Nat := ((List.range 54).find? fun k => decide (1 ≤ k ∧ Tab.xw k v = v)).getD 0
/-- an instruction done: what it answers, and what is behind it -/
def insP (S : St) (b : Bs) (k s t d : Nat) (m : Int) : Int × St × Bs :=
  if Tab.kind k = [98, 114, 97, 110, 99, 104] then ((branchP S k s t d m).1, (branchP S k s t d m).2, b)
  else if Tab.kind k = [108, 111, 97, 100] then
    if bad (adI S k s m) (szI k) = true then (4, { S with bd := adI S k s m }, b) else (-1, (S.set t (b.val (adI S k s m) (szI k) (sgI k) S.ct)).on, b.got (adI S k s m) (szI k) S.ct)
  else if Tab.kind k = [115, 116, 111, 114, 101] then
    if bad (adI S k s m) (szI k) = true then (5, { S with bd := adI S k s m }, b) else (-1, S.on, b.put (adI S k s m) (szI k) (S.r t) S.ct)
  else if Tab.kind k = [116, 114, 97, 112] then ((trapP S k t d).1, (trapP S k t d).2, b)
  else ((sumP S k s t d m).1, (sumP S k s t d m).2, b)
def doC (S : St) (b : Bs) : Int × St × Bs :=
  if intB S = true then (0, S, b) else if chk S.pc 4 ≠ 0 then (4, { S with bd := S.pc }, b)
  else let v := ld b.m S.pc 4 false
    let k := decK v
    insP S b k (Tab.xs (Tab.sh k) v).toNat (Tab.xt (Tab.sh k) v).toNat (Tab.xd (Tab.sh k) v).toNat (Tab.xm (Tab.sh k) v)
def stepP (S : St) (b : Bs) : Int × St × Bs :=
  ((doC S b).1, { (if (doC S b).1 = -1 then (doC S b).2.1 else excP (doC S b).2.1 (doC S b).1) with ct := (doC S b).2.1.ct + 1 }, (doC S b).2.2)
/-! bounds -/
theorem and_bd {a b : Int} (ha : u32 a) (hb : u32 b) : u32 (bits .and .u32 a b) := by
  rw [u32_and a b ha.1 ha.2 hb.1 hb.2]
  have h := Nat.and_lt_two_pow (n := 32) a.toNat (show b.toNat < 2 ^ 32 by have := hb.1; have := hb.2; omega)
  exact ⟨by omega, by omega⟩
theorem or_bd {a b : Int} (ha : u32 a) (hb : u32 b) : u32 (bits .or .u32 a b) := by
  rw [u32_or a b ha.1 ha.2 hb.1 hb.2]
  have h := Nat.or_lt_two_pow (n := 32) (show a.toNat < 2 ^ 32 by have := ha.1; have := ha.2; omega) (show b.toNat < 2 ^ 32 by have := hb.1; have := hb.2; omega)
  exact ⟨by omega, by omega⟩
theorem xor_bd {a b : Int} (ha : u32 a) (hb : u32 b) : u32 (bits .xor .u32 a b) := by
  rw [u32_xor a b ha.1 ha.2 hb.1 hb.2]
  have h := Nat.xor_lt_two_pow (n := 32) (show a.toNat < 2 ^ 32 by have := ha.1; have := ha.2; omega) (show b.toNat < 2 ^ 32 by have := hb.1; have := hb.2; omega)
  exact ⟨by omega, by omega⟩
theorem andNot_bd {a b : Int} (ha : u32 a) (hb : u32 b) : u32 (bits .andNot .u32 a b) := by
  rw [u32_andNot a b ha.1 ha.2 hb.1 hb.2]
  have h := Nat.and_lt_two_pow (n := 32) a.toNat (show 4294967295 - b.toNat < 2 ^ 32 by omega)
  exact ⟨by omega, by omega⟩
theorem bitI_bd (b : Bool) : u32 (bitI b) := by unfold bitI; split <;> exact ⟨by omega, by omega⟩
theorem bitsI_bd (k : Nat) {a b : Int} (ha : u32 a) (hb : u32 b) : u32 (bitsI k a b) := by
  unfold bitsI
  split
  · exact and_bd ha hb
  split
  · exact or_bd ha hb
  split
  · exact xor_bd ha hb
  split
  · exact xor_bd ⟨by omega, by omega⟩ (or_bd ha hb)
  split
  · exact bitI_bd _
  split
  · exact bitI_bd _
  split
  · exact shf_bd ha.1 ha.2
  split
  · exact shf_bd ha.1 ha.2
  split
  · exact shf_bd ha.1 ha.2
  · exact shf_bd hb.1 hb.2
theorem resI_bd {S : St} (o : S.ok) (k : Nat) {a b : Int} (ha : u32 a) (hb : u32 b) : u32 (resI S k a b) := by
  unfold resI
  split
  · exact lo_bd _
  split
  · exact lo_bd _
  split
  · exact lo_bd _
  split
  · exact lo_bd _
  split
  · exact o.hi
  split
  · exact o.lo
  · exact bitsI_bd k ha hb
theorem opA_bd {S : St} (o : S.ok) (k s t : Nat) : u32 (opA S k s t) := by unfold opA; split <;> exact o.r _
theorem opB_bd {S : St} (o : S.ok) (k s t : Nat) {m : Int} (m0 : 0 ≤ m) (m1 : m < 4294967296) : u32 (opB S k s t m) := by
  unfold opB
  split
  · exact immI_bd m0 m1
  split
  · exact o.r _
  split
  · exact immI_bd m0 m1
  · exact o.r _
theorem opT_lt {k t d : Nat} (ht : t < 32) (hd : d < 32) : opT k t d < 32 := by unfold opT; split <;> assumption
theorem targI_bd {S : St} (o : S.ok) (k s : Nat) (m : Int) : u32 (targI S k s m) := by
  unfold targI
  split
  · exact or_bd (and_bd (lo_bd _) ⟨by omega, by omega⟩) (lo_bd _)
  split
  · exact o.r _
  · exact lo_bd _
end Go.Proofs.YtflagpkmebdckaaGreatDoor
/-
  The document's bus.
-/
namespace Go.Proofs.YtflagpkmebdckaaGreatDoor
open Go.RowKit Go.Maps
open Num
set_option linter.unusedVariables false
/-- the document's bus, of a base: what it has made since lies behind -/
structure DBus (w : World) (base db rb gb kb hb : Nat) (b : Bs) (wt ht : Int → Bool) (vt : Value) : Prop where
  c0 : w.cell? ⟨db, 0, none⟩ = some (.pointer (some ⟨rb, 0, none⟩))
  c1 : w.cell? ⟨db, 1, none⟩ = some (.string (outS b.out))
  c2 : w.cell? ⟨db, 2, none⟩ = some (.int .u32 b.lamp)
  c3 : w.cell? ⟨db, 3, none⟩ = some vt
  fz : ∀ j, w.frozen? ⟨db, j, none⟩ = false
  rt : w.ownsRow base 187 4 vt b.tr.length (b.tr.flatMap accC)
  D : DMem w rb gb kb hb b.m wt ht
  lb : db < base
  lr : rb < base
  lg : gb < base
  lk : kb < base
  lh : hb < base
  nr : db ≠ rb
  ng : db ≠ gb
  nk : db ≠ kb
  nh : db ≠ hb
  bs : base ≤ w.heap.size
/-- what a bus may turn -/
def DX (db gb hb : Nat) (vt : Value) (k : Nat) : Prop := k = db ∨ k = gb ∨ k = hb ∨ vt.ownBlock = some k
section
variable {w : World} {base db rb gb kb hb : Nat} {b : Bs} {wt ht : Int → Bool} {vt : Value}
theorem DBus.blocks {w' : World} (B : DBus w base db rb gb kb hb b wt ht vt) (hz : w.heap.size ≤ w'.heap.size) (h : ∀ k, k = db ∨ k = rb ∨ k = gb ∨ k = kb ∨ k = hb ∨ vt.ownBlock = some k → w'.heap[k]? = w.heap[k]?) : DBus w' base db rb gb kb hb b wt ht vt := by
  have hs := h db (Or.inl rfl)
  have c : ∀ (j : Nat) (v : Value), w.cell? ⟨db, j, none⟩ = some v → w'.cell? ⟨db, j, none⟩ = some v := fun j v e => (World.cell?_of_block (a := ⟨db, j, none⟩) hs).trans e
  exact ⟨c _ _ B.c0, c _ _ B.c1, c _ _ B.c2, c _ _ B.c3, fun j => (World.frozen?_of_block (a := ⟨db, j, none⟩) hs).trans (B.fz j), owns_blocks B.rt (fun k e => h k (by simp [e])), B.D.blk (fun k e => h k (by rcases e with rfl | rfl | rfl | rfl <;> simp)), B.lb, B.lr, B.lg, B.lk, B.lh, B.nr, B.ng, B.nk, B.nh, Nat.le_trans B.bs hz⟩
theorem DBus.lt (B : DBus w base db rb gb kb hb b wt ht vt) {k : Nat} (h : k = db ∨ k = rb ∨ k = gb ∨ k = kb ∨ k = hb ∨ vt.ownBlock = some k) : k < w.heap.size := by
  have := B.bs; have := B.lb; have := B.lr; have := B.lg; have := B.lk; have := B.lh
  rcases h with rfl | rfl | rfl | rfl | rfl | h
  · omega
  · omega
  · omega
  · omega
  · omega
  · exact (B.rt.lt k h).2
theorem DBus.stays {w' : World} (B : DBus w base db rb gb kb hb b wt ht vt) (h : Below w.heap.size w w') : DBus w' base db rb gb kb hb b wt ht vt := B.blocks h.size fun k hk => h.block k (B.lt hk)
theorem DBus.kept {w' : World} {X : Nat → Prop} (B : DBus w base db rb gb kb hb b wt ht vt) (h : Kept w w' X) (hx : ∀ k, k = db ∨ k = rb ∨ k = gb ∨ k = kb ∨ k = hb ∨ vt.ownBlock = some k → ¬ X k) : DBus w' base db rb gb kb hb b wt ht vt := B.blocks h.size fun k hk => h.block k (B.lt hk) (hx k hk)
theorem DX.mem {db gb hb : Nat} {vt : Value} {w w' : World} (h : Kept w w' (fun k => k = gb ∨ k = hb)) : Kept w w' (DX db gb hb vt) := h.mono fun k hk => hk.elim (fun e => Or.inr (Or.inl e)) (fun e => Or.inr (Or.inr (Or.inl e)))
/-- one behind the other -/
theorem DX.trans {w w1 w2 : World} {vt' : Value} (t : Kept w w1 (DX db gb hb vt)) (u : Kept w1 w2 (DX db gb hb vt')) (hm : Moved w vt vt') : Kept w w2 (DX db gb hb vt) :=
  t.trans u fun k hk h => by
    rcases h with h | h | h | h
    · exact Or.inl h
    · exact Or.inr (Or.inl h)
    · exact Or.inr (Or.inr (Or.inl h))
    · rcases hm k h with e | e
      · exact Or.inr (Or.inr (Or.inr e))
      · exact absurd hk (by omega)
theorem DBus.own {w' : World} {m' : Nat → Int} {ht' : Int → Bool} (B : DBus w base db rb gb kb hb b wt ht vt) (D : DMem w' rb gb kb hb m' wt ht') (t : Kept w w' (fun k => k = gb ∨ k = hb)) : DBus w' base db rb gb kb hb { b with m := m' } wt ht' vt := by
  have hs := t.block db (Nat.lt_of_lt_of_le B.lb B.bs) (by have := B.ng; have := B.nh; simp; omega)
  have c : ∀ (j : Nat) (v : Value), w.cell? ⟨db, j, none⟩ = some v → w'.cell? ⟨db, j, none⟩ = some v := fun j v e => (World.cell?_of_block (a := ⟨db, j, none⟩) hs).trans e
  exact ⟨c _ _ B.c0, c _ _ B.c1, c _ _ B.c2, c _ _ B.c3, fun j => (World.frozen?_of_block (a := ⟨db, j, none⟩) hs).trans (B.fz j), owns_blocks B.rt (fun k e => t.block k (B.rt.lt k e).2 (by have := (B.rt.lt k e).1; have := B.lg; have := B.lh; simp; omega)), D, B.lb, B.lr, B.lg, B.lk, B.lh, B.nr, B.ng, B.nk, B.nh, Nat.le_trans B.bs t.size⟩
theorem DBus.putTr (B : DBus w base db rb gb kb hb b wt ht vt) {o : Obj} {w1 : World} {v' : Value} {x : Acc} (ho : w1.ownsRow base 187 4 v' (b.tr.length + 1) (b.tr.flatMap accC ++ accC x)) (hg : (w.alloc o).grownBy w1 vt.ownBlock) (hm : Moved (w.alloc o) vt v') :
    (w1.cell? ⟨db, 3, none⟩ = some vt ∧ w1.frozen? ⟨db, 3, none⟩ = false) ∧ DBus (w1.setCell ⟨db, 3, none⟩ v') base db rb gb kb hb { b with tr := b.tr ++ [x] } wt ht v' ∧ Kept w (w1.setCell ⟨db, 3, none⟩ v') (DX db gb hb vt) ∧ Moved w vt v' := by
  have hz : w.heap.size < w1.heap.size := by have := hg.size; simp at this; omega
  have hmw : Moved w vt v' := fun k hk => (hm k hk).imp id (fun h => by simp at h; omega)
  have hk : ∀ k, k < w.heap.size → vt.ownBlock ≠ some k → w1.heap[k]? = w.heap[k]? := fun k hk h => (hg.block k (by simp; omega) (fun e => h e.symm)).trans (Below.heap_alloc w o k hk)
  have hlow : ∀ k, k < base → w1.heap[k]? = w.heap[k]? := fun k hb => hk k (by have := B.bs; omega) (fun e => by have := (B.rt.lt k e).1; omega)
  have hs := hlow db B.lb
  have c : ∀ (j : Nat) (v : Value), w.cell? ⟨db, j, none⟩ = some v → w1.cell? ⟨db, j, none⟩ = some v := fun j v e => (World.cell?_of_block (a := ⟨db, j, none⟩) hs).trans e
  have f : ∀ j, w1.frozen? ⟨db, j, none⟩ = false := fun j => (World.frozen?_of_block (a := ⟨db, j, none⟩) hs).trans (B.fz j)
  have oth : ∀ (j : Nat) (v : Value), j ≠ 3 → w.cell? ⟨db, j, none⟩ = some v → (w1.setCell ⟨db, 3, none⟩ v').cell? ⟨db, j, none⟩ = some v := fun j v hj e => by
    rw [World.cell?_setCell_other _ _ _ _ (by intro e; injection e with e1 e2; exact hj e2.symm)]; exact c j v e
  have blk : ∀ k, k ≠ db → (w1.setCell ⟨db, 3, none⟩ v').heap[k]? = w1.heap[k]? := fun k h => Below.heap_setCell w1 ⟨db, 3, none⟩ v' k h
  refine ⟨⟨c _ _ B.c3, f 3⟩, ⟨oth 0 _ (by omega) B.c0, oth 1 _ (by omega) B.c1, oth 2 _ (by omega) B.c2, World.cell?_setCell_same _ _ _ (c _ _ B.c3), fun j => by rw [World.frozen?_setCell]; exact f j, ?_, ?_, B.lb, B.lr, B.lg, B.lk, B.lh, B.nr, B.ng, B.nk, B.nh, ?_⟩, ?_, hmw⟩
  · show World.ownsRow _ _ _ _ _ (b.tr ++ [x]).length ((b.tr ++ [x]).flatMap accC)
    rw [List.length_append, ← trC_add]
    refine owns_blocks ho fun k e => blk k ?_
    have := (ho.lt k e).1; have := B.lb; omega
  · refine B.D.blk fun k e => ?_
    have h1 := B.nr; have h2 := B.ng; have h3 := B.nk; have h4 := B.nh; have l1 := B.lr; have l2 := B.lg; have l3 := B.lk; have l4 := B.lh
    rcases e with rfl | rfl | rfl | rfl
    · exact (blk _ (Ne.symm h1)).trans (hlow _ l1)
    · exact (blk _ (Ne.symm h2)).trans (hlow _ l2)
    · exact (blk _ (Ne.symm h3)).trans (hlow _ l3)
    · exact (blk _ (Ne.symm h4)).trans (hlow _ l4)
  · have := B.bs; simp; omega
  · exact ⟨hg.os, hg.tape, hg.output, by simp; omega, fun k hkk hx => (blk k (fun e => hx (Or.inl e))).trans (hk k hkk (fun e => hx (Or.inr (Or.inr (Or.inr e)))))⟩
theorem DBus.putLamp (B : DBus w base db rb gb kb hb b wt ht vt) (x : Int) : DBus (w.setCell ⟨db, 2, none⟩ (.int .u32 x)) base db rb gb kb hb { b with lamp := x } wt ht vt ∧ Kept w (w.setCell ⟨db, 2, none⟩ (.int .u32 x)) (DX db gb hb vt) := by
  have oth : ∀ (j : Nat) (v : Value), j ≠ 2 → w.cell? ⟨db, j, none⟩ = some v → (w.setCell ⟨db, 2, none⟩ (.int .u32 x)).cell? ⟨db, j, none⟩ = some v := fun j v hj e => by
    rw [World.cell?_setCell_other _ _ _ _ (by intro e; injection e with e1 e2; exact hj e2.symm)]; exact e
  have blk : ∀ k, k ≠ db → (w.setCell ⟨db, 2, none⟩ (.int .u32 x)).heap[k]? = w.heap[k]? := fun k h => Below.heap_setCell w ⟨db, 2, none⟩ _ k h
  refine ⟨⟨oth 0 _ (by omega) B.c0, oth 1 _ (by omega) B.c1, World.cell?_setCell_same _ _ _ B.c2, oth 3 _ (by omega) B.c3, fun j => by rw [World.frozen?_setCell]; exact B.fz j, ?_, ?_, B.lb, B.lr, B.lg, B.lk, B.lh, B.nr, B.ng, B.nk, B.nh, ?_⟩, ?_⟩
  · exact owns_blocks B.rt fun k e => blk k (by have := (B.rt.lt k e).1; have := B.lb; omega)
  · refine B.D.blk fun k e => ?_
    have h1 := B.nr; have h2 := B.ng; have h3 := B.nk; have h4 := B.nh
    rcases e with rfl | rfl | rfl | rfl
    · exact blk _ (Ne.symm h1)
    · exact blk _ (Ne.symm h2)
    · exact blk _ (Ne.symm h3)
    · exact blk _ (Ne.symm h4)
  · have := B.bs; simp; omega
  · exact Kept.setCell w ⟨db, 2, none⟩ _ _ (Or.inl rfl)
theorem DBus.putOut (B : DBus w base db rb gb kb hb b wt ht vt) (x : Int) : DBus (w.setCell ⟨db, 1, none⟩ (.string (outS (b.out ++ [x])))) base db rb gb kb hb { b with out := b.out ++ [x] } wt ht vt ∧ Kept w (w.setCell ⟨db, 1, none⟩ (.string (outS (b.out ++ [x])))) (DX db gb hb vt) := by
  have oth : ∀ (j : Nat) (v : Value), j ≠ 1 → w.cell? ⟨db, j, none⟩ = some v → (w.setCell ⟨db, 1, none⟩ (.string (outS (b.out ++ [x])))).cell? ⟨db, j, none⟩ = some v := fun j v hj e => by
    rw [World.cell?_setCell_other _ _ _ _ (by intro e; injection e with e1 e2; exact hj e2.symm)]; exact e
  have blk : ∀ k, k ≠ db → (w.setCell ⟨db, 1, none⟩ (.string (outS (b.out ++ [x])))).heap[k]? = w.heap[k]? := fun k h => Below.heap_setCell w ⟨db, 1, none⟩ _ k h
  refine ⟨⟨oth 0 _ (by omega) B.c0, World.cell?_setCell_same _ _ _ B.c1, oth 2 _ (by omega) B.c2, oth 3 _ (by omega) B.c3, fun j => by rw [World.frozen?_setCell]; exact B.fz j, ?_, ?_, B.lb, B.lr, B.lg, B.lk, B.lh, B.nr, B.ng, B.nk, B.nh, ?_⟩, ?_⟩
  · exact owns_blocks B.rt fun k e => blk k (by have := (B.rt.lt k e).1; have := B.lb; omega)
  · refine B.D.blk fun k e => ?_
    have h1 := B.nr; have h2 := B.ng; have h3 := B.nk; have h4 := B.nh
    rcases e with rfl | rfl | rfl | rfl
    · exact blk _ (Ne.symm h1)
    · exact blk _ (Ne.symm h2)
    · exact blk _ (Ne.symm h3)
    · exact blk _ (Ne.symm h4)
  · have := B.bs; simp; omega
  · exact Kept.setCell w ⟨db, 1, none⟩ _ _ (Or.inl rfl)
end
end Go.Proofs.YtflagpkmebdckaaGreatDoor
