/-
  The walk of AsmTexts.
-/
import Derived.Lib.LaidU8
import Derived.LaidMore
import Derived.HandedShaped
import Derived.Shelf.Vars
import Derived.Test.YtccnliihdhnckaaGreatDoorKText
import Derived.Test.YtccnliihdhnckaaGreatDoorKEr9
import Derived.Test.YtccnliihdhnckaaGreatDoorQParse
import Derived.Test.YtccnliihdhnckaaGreatDoorKPOa
import Derived.Test.YtccnliihdhnckaaGreatDoorKDA5
import Derived.Test.YtccnliihdhnckaaGreatDoorQLaid
import Derived.Test.YtccnliihdhnckaaGreatDoorQTextOfLo
import Derived.Test.YtccnliihdhnckaaGreatDoorQTextOfHi
namespace Go.Proofs.YtccnliihdhnckaaGreatDoor
open Go.RowKit Go.Shelf Go.Joins
open Num Tab Fm Txt
set_option linter.unusedVariables false
end Go.Proofs.YtccnliihdhnckaaGreatDoor
/-
  From what the program's own text lays (errors of package api and of Go's library, the handle of 'error', the tables of names, of first words and of powers) to what the walks of package asm ask.
-/
namespace Go.Proofs.YtccnliihdhnckaaGreatDoor
open Go.ChangeShapes Go.WideShapes Go.ChangeAt Go.RowKit Go.Lib
open Tab Fm
set_option linter.unusedVariables false
theorem laidVars_split {P : Program} {W : World} : ∀ (l1 : List (String × DataW Unit)) {l2 : List (String × DataW Unit)} {ps : List MemPlace}, DataW.LaidVars P W (l1 ++ l2) ps → ∃ p1 p2, ps = p1 ++ p2 ∧ DataW.LaidVars P W l1 p1 ∧ DataW.LaidVars P W l2 p2
  | [], l2, ps, h => ⟨[], ps, rfl, rfl, h⟩
  | x :: l1, l2, ps, h => by
    obtain ⟨g, t, cs, f, p, q, hg, ht, hv, hd, hq, e⟩ := h
    obtain ⟨p1, p2, rfl, h1, h2⟩ := laidVars_split l1 hq
    exact ⟨_, p2, by rw [e, ← List.append_assoc], ⟨g, t, cs, f, p, p1, hg, ht, hv, hd, h1, rfl⟩, h2⟩
theorem laidMet_left {P : Program} {W : World} (l1 l2 : List (String × DataW Unit)) (h : laidMet P (l1 ++ l2) W) : laidMet P l1 W := by
  obtain ⟨ps, hl, hn, hr⟩ := h
  obtain ⟨p1, p2, rfl, h1, h2⟩ := laidVars_split l1 hl
  exact ⟨p1, h1, (List.nodup_append.1 hn).1, fun b off hm => hr b off (List.mem_append_left _ hm)⟩
theorem laidMet_right {P : Program} {W : World} (l1 l2 : List (String × DataW Unit)) (h : laidMet P (l1 ++ l2) W) : laidMet P l2 W := by
  obtain ⟨ps, hl, hn, hr⟩ := h
  obtain ⟨p1, p2, rfl, h1, h2⟩ := laidVars_split l1 hl
  exact ⟨p2, h2, (List.nodup_append.1 hn).2.1, fun b off hm => hr b off (List.mem_append_right _ hm)⟩
/-- a table of texts, as a datum -/
def strData {H : Type} (zs : List (List UInt8)) : DataW H := .agg (zs.map fun z => .lit (.string z))
theorem cells_of_strs {H : Type} {enc : TypeId × Value → H} {P : Program} {w : World} {base : Nat} {sp : Nat → Bool} {held : Bool} {fuel : Nat} {t e : TypeId} {n : Nat} {cs : List Value} {zs : List (List UInt8)} {p : List MemPlace}
    (ht : P.underlying t = some (.array n e)) (he : P.underlying e = some .string) (hce : P.cellsOf e = 1) (hct : P.cellsOf t = n)
    (h : DataW.trod enc P w base sp held fuel t cs = some (strData zs, p)) : cs = zs.map fun z => Value.string ⟨z.toArray⟩ := by
  cases fuel with
  | zero => simp [DataW.trod] at h
  | succ fuel =>
    simp only [DataW.trod, ht, hce, hct, Nat.mul_one] at h
    split at h
    · rename_i hl
      obtain ⟨xs, hm, hx⟩ := Option.map_eq_some_iff.1 h
      have hxs : xs.map (·.1) = zs.map fun z => (DataW.lit (.string z) : DataW H) := by
        have := congrArg Prod.fst hx
        simpa [strData] using this
      have hxl : xs.length = n := by simpa using mapM_length hm
      have hzl : zs.length = n := by
        have := congrArg List.length hxs
        simp at this
        omega
      apply List.ext_getElem?
      intro i
      by_cases hi : i < n
      · obtain ⟨b, hb, hf⟩ := mapM_at hm i i (by simp [hi])
        obtain ⟨z, hc, rfl, _⟩ := DataW.trod_string he hf
        have h1 : cs[i]? = some (.string z) := by
          have := congrArg (·[0]?) hc
          simpa [List.getElem?_take, List.getElem?_drop] using this
        have h2 : (xs.map (·.1))[i]? = some (DataW.lit (.string z.data.toList) : DataW H) := by simp [hb]
        rw [hxs] at h2
        simp only [List.getElem?_map, Option.map_eq_some_iff, DataW.lit.injEq, Lit.string.injEq] at h2
        obtain ⟨z', hz', e'⟩ := h2
        rw [h1, List.getElem?_map, hz']
        simp [e']
      · rw [List.getElem?_eq_none (by omega), List.getElem?_eq_none (by simp; omega)]
    · cases h
theorem Tryz.gF : Tryz.prog.globalNamed "changeling/code.firsts" = some 7 := by kernel_rfl
theorem Tryz.tF : (Tryz.prog.globals[7]?).map (·.type) = some 105 := by kernel_rfl
theorem Tryz.c105 : Tryz.prog.cellsOf 105 = 54 := by kernel_rfl
theorem Tryz.c22 : Tryz.prog.cellsOf 22 = 1 := by kernel_rfl
theorem Tryz.gN : Tryz.prog.globalNamed "changeling/asm.names" = some 0 := by kernel_rfl
theorem Tryz.tN : (Tryz.prog.globals[0]?).map (·.type) = some 62 := by kernel_rfl
theorem Tryz.c62 : Tryz.prog.cellsOf 62 = 54 := by kernel_rfl
theorem Tryz.c9 : Tryz.prog.cellsOf 9 = 1 := by kernel_rfl
theorem Tryz.tP : (Tryz.prog.globals[13]?).map (·.type) = some 166 := by kernel_rfl
theorem Tryz.c166 : Tryz.prog.cellsOf 166 = 20 := by kernel_rfl
theorem Tryz.c106 : Tryz.prog.cellsOf 106 = 1 := by kernel_rfl
theorem ft_of_reads {W : World} (h : VarReads Tryz.prog W "changeling/code.firsts" (tabData .u32 fstL)) : FT W := by
  obtain ⟨g, t, cs, fuel, p, hg, hty, hvar, hd⟩ := h
  obtain rfl := Option.some.inj (Tryz.gF.symm.trans hg)
  obtain rfl := Option.some.inj (Tryz.tF.symm.trans hty)
  have hcs := cells_of_tab Tryz.underlying105 Tryz.underlying22 Tryz.c22 Tryz.c105 hd
  intro i hi
  have := World.var?_cell hg hvar i
  rw [this, ← Array.getElem?_toList, hcs, List.getElem?_map]
  have hl : i < fstL.length := hi
  rw [List.getElem?_eq_getElem hl]
  show some (Value.int .u32 fstL[i]) = some (Value.int .u32 (fstL.getD i 0))
  rw [List.getD_eq_getElem?_getD, List.getElem?_eq_getElem hl]; rfl
theorem nm_of_reads {W : World} (h : VarReads Tryz.prog W "changeling/asm.names" (strData nmL)) : ∀ i : Nat, i < 54 → W.cell? ⟨0, i, none⟩ = some (.string ⟨(nme i).toArray⟩) := by
  obtain ⟨g, t, cs, fuel, p, hg, hty, hvar, hd⟩ := h
  obtain rfl := Option.some.inj (Tryz.gN.symm.trans hg)
  obtain rfl := Option.some.inj (Tryz.tN.symm.trans hty)
  have hcs := cells_of_strs Tryz.underlying62 Tryz.underlying9 Tryz.c9 Tryz.c62 hd
  intro i hi
  have := World.var?_cell hg hvar i
  rw [this, ← Array.getElem?_toList, hcs, List.getElem?_map]
  have hl : i < nmL.length := hi
  rw [List.getElem?_eq_getElem hl]
  show some (Value.string ⟨nmL[i].toArray⟩) = some (Value.string ⟨(nmL.getD i []).toArray⟩)
  rw [List.getD_eq_getElem?_getD, List.getElem?_eq_getElem hl]; rfl
theorem tab_of_reads {W : World} (h : VarReads Tryz.prog W "internal/strconv.uint64pow10" (tabData .u64 pow10Tab)) : TabIs Tryz.prog W "internal/strconv.uint64pow10" .u64 pow10Tab := by
  obtain ⟨g, t, cs, fuel, p, hg, hty, hvar, hd⟩ := h
  obtain rfl := Option.some.inj (Tryz.gPow.symm.trans hg)
  obtain rfl := Option.some.inj (Tryz.tP.symm.trans hty)
  have hcs := cells_of_tab Tryz.underlying166 Tryz.underlying106 Tryz.c106 Tryz.c166 hd
  unfold TabIs
  rw [hvar, ← hcs]
/-- the two errors of package strconv, by name and text -/
def two : List (String × List UInt8) := [("strconv.ErrRange", [118, 97, 108, 117, 101, 32, 111, 117, 116, 32, 111, 102, 32, 114, 97, 110, 103, 101]), ("strconv.ErrSyntax", [105, 110, 118, 97, 108, 105, 100, 32, 115, 121, 110, 116, 97, 120])]
theorem two_named : ∀ x ∈ two, ∃ g, Tryz.prog.globalNamed x.1 = some g ∧ (Tryz.prog.globals[g]?).map (·.type) = some 27 := by
  intro x hx
  unfold two at hx
  rcases List.mem_cons.1 hx with rfl | hx
  · exact ⟨20, by kernel_rfl, by kernel_rfl⟩
  · rcases List.mem_cons.1 hx with rfl | hx
    · exact ⟨19, by kernel_rfl, by kernel_rfl⟩
    · cases hx
set_option maxRecDepth 100000 in
theorem all_of_laid {W : World} (a b c d : String × DataW Unit) (h : laidMet Tryz.prog (((([a, b, ("internal/strconv.uint64pow10", tabData .u64 pow10Tab), c] ++ (ten.map fun x => (x.1, sentinel "*errors.errorString" x.2))) ++ [("changeling/code.firsts", tabData .u32 fstL)]) ++ (two.map fun x => (x.1, sentinel "*errors.errorString" x.2))) ++ [("changeling/asm.names", strData nmL), d]) W)
    (hh : handlesMet Tryz.prog [("errors.errorType", .iface "internal/reflectlite.rtype" (.agg [.ptr (.lit (.string [101, 114, 114, 111, 114]))]))] W) (hsh : W.ShapedOpen Tryz.prog) : ∃ S, Errs S W ∧ Tb (S 3) (S 1) W ∧ Lb W := by
  have hN := nm_of_reads (laidMet.reads h (List.mem_append_right _ (by simp)))
  have hF := ft_of_reads (laidMet.reads h (List.mem_append_left _ (List.mem_append_left _ (List.mem_append_right _ (by simp)))))
  have hP := tab_of_reads (laidMet.reads h (List.mem_append_left _ (List.mem_append_left _ (List.mem_append_left _ (List.mem_append_left _ (by simp))))))
  obtain ⟨S, E⟩ := errs_of_laid (laidMet_right _ _ (laidMet_left _ _ (laidMet_left _ _ (laidMet_left _ _ h)))) hh
  obtain ⟨ps, hl, hnd, hrows⟩ := laidMet_right _ _ (laidMet_left _ _ h)
  obtain ⟨ads, hlen, hvar, hmem, hn⟩ := laid_all Tryz.underlying27 Tryz.rowS Tryz.underlying210 Tryz.underlying212 rfl rfl Tryz.underlying9 Tryz.cellsES Tryz.cellsStr two two_named ps hl hrows
  have h2 : ads.length = 2 := hlen
  refine ⟨S, E, ⟨E.c3, E.c1, hF⟩, hN, hP, ?_, ?_, ?_⟩
  · have h := hvar 1 (by decide) (by omega)
    exact ⟨_, _, h⟩
  · have h := hvar 0 (by decide) (by omega)
    exact ⟨_, _, h⟩
  · exact cell_of_shapedOpen_int (P := Tryz.prog) (g := 14) (t := 3) (zero := #[.int .i64 0]) hsh (of_decide_eq_true (by kernel_rfl)) (by kernel_rfl) rfl (by kernel_rfl) (by kernel_rfl) Tryz.underlying3
/-- the wrap of a change, the world's shape kept, a condition more -/
theorem returns_and_shaped {H : Type} {enc : TypeId × Value → H} {a : Assume} {C : Checked} {os : Os} {f : FuncId} {fn : Func} {s : ChangeSpec} {conds : List PathCond} {apart fresh handsOn again : Bool} {X : World → Array Value → Prop}
    (hX : ∀ (w w' : World) (args : Array Value), w.heap = w'.heap → X w args → X w' args)
    (own : ownKnob C.prog.godebug = none) (started : os.Started) (noInit : C.prog.inits.idxOf? f = none) (hfn : C.prog.funcs[f]? = some fn)
    (witness : ∃ (w : World) (tape : Tape) (i : Input), w.os = os ∧ (w.forCall tape i).Shaped C.prog ∧ i.vars = [] ∧ Input.okWide C.prog (w.forCall tape i) .any w.heap.size f i ∧
      ((s.pre enc C.prog fn conds apart (w.forCall tape i).memory i.args ∧ X (w.forCall tape i).memory i.args) ∧ sizedMet enc C.prog fn (OpenSpec.ofChange s) apart (w.forCall tape i).memory i.args) ∧ a.holds C.prog (lone (Frame.enter C.prog f i.args .normal) [] (w.forCall tape i)))
    (contract : ∀ (W : World) (base : Nat) (args : Array Value) (ds gs : List (DataW H)) (before : List MemPlace),
      (∀ (j : Nat) t v, fn.params[j]? = some t → args[j]? = some v → Value.okWide C.prog W .any base t v) →
      DataW.Whole enc C.prog fn.params.toList s.vars apart W args.toList ds gs before → X W args → W.ShapedOpen C.prog →
      Calls C.prog f args W fun e W' => ∃ v, e = .returned v ∧ s.post enc C.prog fn apart fresh handsOn again W args v W') :
    ReturnsInHanded a C os f .any (fun w args => (s.pre enc C.prog fn conds apart w args ∧ X w args) ∧ sizedMet enc C.prog fn (OpenSpec.ofChange s) apart w args) (s.post enc C.prog fn apart fresh handsOn again) := by
  refine returnsInHanded_of_calls own started noInit witness ?_
  intro w tape i _ hsh _ hok hpre _
  obtain ⟨_, _, _, fn', hfn', _, _, _, _, hval⟩ := hok
  have e : fn' = fn := Option.some.inj (hfn'.symm.trans hfn)
  subst e
  obtain ⟨⟨⟨ds, gs, before, hw, _⟩, hx⟩, _⟩ := hpre
  have hw' := DataW.Whole.of_heap (w' := w.forCall tape i) (by rfl) hw
  refine (contract (w.forCall tape i) w.heap.size i.args ds gs before hval hw' (hX _ _ _ (by rfl) hx) hsh).mono fun e W' ⟨v, he, hp⟩ => ?_
  subst he
  exact ChangeSpec.post_blind hp
end Go.Proofs.YtccnliihdhnckaaGreatDoor
