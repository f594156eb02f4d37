/-
  What package code's Decode answers: the instruction whose word it is, or none.
-/
import Derived.Deep.RegionWith
import Derived.Lib.BufferMore
import Derived.Test.YtflagpkmebdckaaGreatDoorKOptPure
import Derived.Test.YtflagpkmebdckaaGreatDoorKIrChk2
import Derived.Test.YtflagpkmebdckaaGreatDoorQKEncode
import Derived.Test.YtflagpkmebdckaaGreatDoorQLw2
import Derived.Test.YtflagpkmebdckaaGreatDoorKPlPure
import Derived.Test.YtflagpkmebdckaaGreatDoorJPl1
import Derived.Test.YtflagpkmebdckaaGreatDoorJDoc6
import Derived.Test.YtflagpkmebdckaaGreatDoorKRowsI
import Derived.Test.YtflagpkmebdckaaGreatDoorKIrRes
namespace Go.Proofs.YtflagpkmebdckaaGreatDoor.K
open Go.RowKit Go.Extern.Stop Go.Stop Go.Extern
open Num Tab
set_option linter.unusedVariables false
section
variable {C : Nat} {w wr : World} {l : List UInt8} {p : Nat} {o s t d m : Int}
end
end Go.Proofs.YtflagpkmebdckaaGreatDoor.K
/-
  The walks of coding() and of CodeKinds.
-/
namespace Go.Proofs.YtflagpkmebdckaaGreatDoor.K
open Go.RowKit Go.Extern.Stop Go.Stop Go.Extern
open Num Tab
set_option linter.unusedVariables false
theorem kind_nat (k : Nat) (hk : k < 54) (l : List UInt8) (hl : kind k = l) (w : World) : Calls Tryz.prog 91 #[.int .i64 k] w fun e w' => e = .returned (.string ⟨l.toArray⟩) ∧ w' = w := by
  have h : kindI k = l := by unfold kindI; rw [if_pos (by omega)]; exact hl
  rw [← h]; exact kind_any k w
end Go.Proofs.YtflagpkmebdckaaGreatDoor.K
/-
  A code on its way, and the instruction that is made ops, in its box.
-/
namespace Go.Proofs.YtflagpkmebdckaaGreatDoor.Low
open Go.RowKit Go.Maps
open Num
set_option linter.unusedVariables false
structure LB (w0 w W : World) (lb ib : Nat) (pc many at_ : Int) (l : List Opx) (v0 v : Value) (k s t d m : Int) : Prop where
  f : LAt w0 W lb pc many at_ l v
  kp : LKept w W lb v0 v
  c0 : W.cell? ⟨ib, 0, none⟩ = some (.int .i64 k)
  c1 : W.cell? ⟨ib, 1, none⟩ = some (.int .i64 s)
  c2 : W.cell? ⟨ib, 2, none⟩ = some (.int .i64 t)
  c3 : W.cell? ⟨ib, 3, none⟩ = some (.int .i64 d)
  c4 : W.cell? ⟨ib, 4, none⟩ = some (.int .u32 m)
  n1 : ib ≠ lb
  n2 : v.ownBlock ≠ some ib
section
variable {w0 w W : World} {lb ib : Nat} {pc many at_ : Int} {l l' : List Opx} {v0 v : Value} {k s t d m : Int}
theorem LB.start (F : LAt w0 w lb pc many at_ l v) (k s t d m : Int) : LB w0 w (w.alloc (.cells #[.int .i64 k, .int .i64 s, .int .i64 t, .int .i64 d, .int .u32 m] 113)) lb w.heap.size pc many at_ l v v k s t d m :=
  have hA : Below w.heap.size w (w.alloc (.cells #[.int .i64 k, .int .i64 s, .int .i64 t, .int .i64 d, .int .u32 m] 113)) := (Below.refl _ _).alloc (Nat.le_refl _) _
  ⟨F.stays hA, LKept.ahead hA (LKept.refl _ _ _), by simp, by simp, by simp, by simp, by simp, F.lne, F.vlt⟩
theorem LB.pure (B : LB w0 w W lb ib pc many at_ l v0 v k s t d m) {W' : World} (h : Below W.heap.size W W') : LB w0 w W' lb ib pc many at_ l v0 v k s t d m :=
  ⟨B.f.stays h, B.kp.behind h, K.cell_stays h (Nat.le_refl _) B.c0, K.cell_stays h (Nat.le_refl _) B.c1, K.cell_stays h (Nat.le_refl _) B.c2, K.cell_stays h (Nat.le_refl _) B.c3, K.cell_stays h (Nat.le_refl _) B.c4, B.n1, B.n2⟩
theorem LB.add (B : LB w0 w W lb ib pc many at_ l v0 v k s t d m) {W' : World} {v' : Value} (F : LAt w0 W' lb pc many at_ l' v') (L : LKept W W' lb v v') : LB w0 w W' lb ib pc many at_ l' v0 v' k s t d m :=
  ⟨F, B.kp.trans L, L.cell B.c0 B.n1 B.n2, L.cell B.c1 B.n1 B.n2, L.cell B.c2 B.n1 B.n2, L.cell B.c3 B.n1 B.n2, L.cell B.c4 B.n1 B.n2, B.n1, (L.keep ib (World.block_lt_of_cell? _ _ B.c0) B.n1 B.n2).2⟩
theorem LB.done (B : LB w0 w W lb ib pc many at_ l v0 v k s t d m) : LP w0 w lb pc many at_ l v0 (.returned (.tuple #[])) W := ⟨rfl, _, B.f, B.kp⟩
theorem LB.load (B : LB w0 w W lb ib pc many at_ l v0 v k s t d m) : (loadVar 113 ⟨ib, 0, none⟩).run Tryz.prog W = .ok (.agg #[.int .i64 k, .int .i64 s, .int .i64 t, .int .i64 d, .int .u32 m]) W := by
  have c0 := B.c0; have c1 := B.c1; have c2 := B.c2; have c3 := B.c3; have c4 := B.c4
  simp [go_sem, c0, c1, c2, c3, c4]
end
end Go.Proofs.YtflagpkmebdckaaGreatDoor.Low
/-
  Package opt: Known; ops that are told.
-/
namespace Go.Proofs.YtflagpkmebdckaaGreatDoor
open Go.RowKit Go.Maps
open Num
set_option linter.unusedVariables false
theorem ccheck_ok (pe : Nat → Addr) {w : World} (E : Eg pe w) {v : Value} {l : List Opx} (A : OpsIn w v l) (hl : (l.length : Int) ≤ 1000000) (pc many : Int) (m0 : -9223372036854775808 ≤ many) (m1 : many ≤ 9223372036854775807) (hf : codeF many l = (0, -1)) :
    Calls Tryz.prog 71 #[.agg #[.int .u32 pc, .int .i64 many, v]] w fun e w' => e = .returned .nilIface ∧ Below w.heap.size w w' := by
  refine (check_any pe E A hl pc many m0 m1).mono ?_
  rintro e w' ⟨⟨x, rfl, hC⟩, hb⟩
  rw [hf] at hC
  rcases hC with ⟨_, h⟩ | ⟨h, _⟩
  · exact ⟨by rw [h]; rfl, hb⟩
  · omega
end Go.Proofs.YtflagpkmebdckaaGreatDoor
/-
  Package opt: ops that are told, in place.
-/
namespace Go.Proofs.YtflagpkmebdckaaGreatDoor
open Go.RowKit Go.Maps
open Num
set_option linter.unusedVariables false
/-- block g holds ops, from its first cell on, and may be written -/
structure OpsRw (w : World) (g : Nat) (l : List Opx) : Prop where
  c : ∀ (i : Nat) (o : Opx), l[i]? = some o → ∀ (j : Nat) (u : Value), (opC o)[j]? = some u → w.cell? ⟨g, i * 6 + j, none⟩ = some u
  fz : ∀ j, w.frozen? ⟨g, j, none⟩ = false
theorem OpsRw.block {w w' : World} {g : Nat} {l : List Opx} (R : OpsRw w g l) (h : w'.heap[g]? = w.heap[g]?) : OpsRw w' g l :=
  ⟨fun i o hi j u hj => (World.cell?_of_block (a := ⟨g, i * 6 + j, none⟩) h).trans (R.c i o hi j u hj), fun j => (World.frozen?_of_block (a := ⟨g, j, none⟩) h).trans (R.fz j)⟩
theorem OpsRw.lt {w : World} {g : Nat} {l : List Opx} (R : OpsRw w g l) (h : 0 < l.length) : g < w.heap.size := World.block_lt_of_cell? _ _ (R.c 0 _ (List.getElem?_eq_getElem h) 0 _ rfl)
theorem OpsRw.in {w : World} {g cap : Nat} {l : List Opx} (R : OpsRw w g l) (hc : l.length ≤ cap) (ok : ∀ o ∈ l, o.ok) : OpsIn w (.slice (some ⟨g, 0, none⟩) l.length cap) l :=
  ⟨⟨_, cap, rfl, hc, fun _ => ⟨g, 0, rfl, fun i o hi j u hj => by rw [Nat.zero_add]; exact R.c i o hi j u hj⟩⟩, ok⟩
def put6 (w : World) (g a : Nat) (o : Opx) : World := (((((w.setCell ⟨g, a, none⟩ (.string o.s)).setCell ⟨g, a + 1, none⟩ (.int .i64 o.d)).setCell ⟨g, a + 2, none⟩ (.int .i64 o.a)).setCell ⟨g, a + 3, none⟩ (.int .i64 o.b)).setCell ⟨g, a + 4, none⟩ (.int .u32 o.i)).setCell ⟨g, a + 5, none⟩ (.int .i64 o.t)
theorem set_same {w : World} {a : Addr} {v : Value} (h : (w.cell? a).isSome = true) : (w.setCell a v).cell? a = some v := World.cell?_setCell_same' w a v h
theorem set_other {w : World} {g i j : Nat} {v : Value} (h : i ≠ j) : (w.setCell ⟨g, i, none⟩ v).cell? ⟨g, j, none⟩ = w.cell? ⟨g, j, none⟩ := World.cell?_setCell_other _ _ _ _ (by intro e; injection e with _ e; exact h (by omega))
theorem OpsRw.put {w : World} {g n : Nat} {l : List Opx} (R : OpsRw w g l) (hn : n < l.length) (o' : Opx) : OpsRw (put6 w g (n * 6) o') g (l.set n o') := by
  have old : ∀ j, j < 6 → (w.cell? ⟨g, n * 6 + j, none⟩).isSome = true := by
    intro j hj
    have := R.c n _ (List.getElem?_eq_getElem hn) j
    have h6 : (opC l[n]).length = 6 := rfl
    rw [this _ (List.getElem?_eq_getElem (by omega))]; rfl
  refine ⟨fun i o hi j u hj => ?_, fun j => ?_⟩
  · have hj6 : j < 6 := (List.getElem?_eq_some_iff.1 hj).1
    rw [List.getElem?_set] at hi
    by_cases e : n = i
    · rw [if_pos e, if_pos hn] at hi
      cases hi
      subst e
      unfold put6
      have o0 := old 0 (by omega)
      have o1 := old 1 (by omega)
      have o2 := old 2 (by omega)
      have o3 := old 3 (by omega)
      have o4 := old 4 (by omega)
      have o5 := old 5 (by omega)
      rw [Nat.add_zero] at o0
      have hc : j = 0 ∨ j = 1 ∨ j = 2 ∨ j = 3 ∨ j = 4 ∨ j = 5 := by omega
      rcases hc with rfl | rfl | rfl | rfl | rfl | rfl
      · cases hj
        rw [set_other (by omega), set_other (by omega), set_other (by omega), set_other (by omega), set_other (by omega)]
        exact set_same o0
      · cases hj
        rw [set_other (by omega), set_other (by omega), set_other (by omega), set_other (by omega), set_same (by rw [set_other (by omega)]; exact o1)]
      · cases hj
        rw [set_other (by omega), set_other (by omega), set_other (by omega), set_same (by rw [set_other (by omega), set_other (by omega)]; exact o2)]
      · cases hj
        rw [set_other (by omega), set_other (by omega), set_same (by rw [set_other (by omega), set_other (by omega), set_other (by omega)]; exact o3)]
      · cases hj
        rw [set_other (by omega), set_same (by rw [set_other (by omega), set_other (by omega), set_other (by omega), set_other (by omega)]; exact o4)]
      · cases hj
        rw [set_same (by rw [set_other (by omega), set_other (by omega), set_other (by omega), set_other (by omega), set_other (by omega)]; exact o5)]
    · rw [if_neg e] at hi
      unfold put6
      rw [set_other (by omega), set_other (by omega), set_other (by omega), set_other (by omega), set_other (by omega), set_other (by omega)]
      exact R.c i o hi j u hj
  · unfold put6
    simp only [World.frozen?_setCell]
    exact R.fz j
theorem put6_grown (w : World) (g a : Nat) (o : Opx) : w.grownBy (put6 w g a o) (some g) := by
  unfold put6
  exact grown_trans (grown_trans (grown_trans (grown_trans (grown_trans (grown_set _ _) (grown_set ⟨g, a + 1, none⟩ _)) (grown_set ⟨g, a + 2, none⟩ _)) (grown_set ⟨g, a + 3, none⟩ _)) (grown_set ⟨g, a + 4, none⟩ _)) (grown_set ⟨g, a + 5, none⟩ _)
theorem FactsAt.kept {w w' : World} {b N g : Nat} {f : Fx} (F : FactsAt w b N f) (h : w.grownBy w' (some g)) (hne : b ≠ g) : FactsAt w' b N f := by
  obtain ⟨D, h1, h2, h3⟩ := F.own
  exact ⟨⟨D, h1.kept h (by intro e; exact hne (Option.some.inj e)), h2, h3⟩, F.bd⟩
/-- told so far: done, the rest, what is known -/
structure WkAt (l done rest : List Opx) (f : Fx) : Prop where
  e : workF fx0 l = done ++ workF f rest
  r : rest = l.drop done.length
theorem WkAt.next {l done rest : List Opx} {f : Fx} {o : Opx} (W : WkAt l done (o :: rest) f) : WkAt l (done ++ [toldO f o]) rest (learnF f (toldO f o)) := by
  refine ⟨by rw [W.e]; simp [workF], ?_⟩
  have := W.r
  rw [List.length_append, List.length_singleton, ← List.drop_drop, ← this]; rfl
set_option maxRecDepth 100000 in
set_option maxHeartbeats 4000000 in
theorem workOut_any {w : World} {g cap : Nat} {l : List Opx} (R : OpsRw w g l) (hl : (l.length : Int) ≤ 1000000) (hc : l.length ≤ cap) (ok : ∀ o ∈ l, o.ok) (hpos : 0 < l.length) :
    Calls Tryz.prog 73 #[.slice (some ⟨g, 0, none⟩) l.length cap] w fun e w' => e = .returned (.tuple #[]) ∧ OpsRw w' g (workF fx0 l) ∧ (∀ o ∈ workF fx0 l, o.ok) ∧ w.grownBy w' (some g) := by
  have RH : Hid (OpsRw w g l) := R
  have hgz := R.lt hpos
  have OK : Hid (∀ o ∈ l, o.ok) := ok
  clear R ok
  go_enter Tryz.func73, Tryz.ntmps73
  go_wp2_with fail
  refine (newFacts_any _).mono ?_
  rintro e w2 ⟨fb, rfl, hF, hb2, hfb⟩
  have R2 : Hid (OpsRw w2 g l) := RH.out.block (hb2.block g hgz)
  have HF : Hid (FactsAt w2 fb 1 fx0) := hF
  have HG : Hid (w.grownBy w2 (some g)) := grown_below hb2
  clear hF hb2 RH
  go_wp2
  go_loopw [10] (fun i wr => ∃ (j : Nat) (done rest : List Opx) (f : Fx), j = done.length ∧ j ≤ l.length ∧ i = .int .i64 j ∧ WkAt l done rest f ∧ (∀ o ∈ done, o.ok) ∧ FactsAt wr fb (1 + j) f ∧ OpsRw wr g (done ++ rest) ∧ w.grownBy wr (some g)) (fun i _ => l.length - (intOf i).toNat)
  case atStart => exact ⟨0, [], l, fx0, rfl, Nat.zero_le _, rfl, ⟨rfl, rfl⟩, by simp, HF.out, R2.out, HG.out⟩
  case round =>
    obtain ⟨j, done, rest, f, hjd, hj, rfl, hW, hdok, hFr, hRr, hGr⟩ := hrel
    have HW : Hid (WkAt l done rest f) := hW
    have HD : Hid (∀ o ∈ done, o.ok) := hdok
    have HFr : Hid (FactsAt wr fb (1 + j) f) := hFr
    have HRr : Hid (OpsRw wr g (done ++ rest)) := hRr
    have HGr : Hid (w.grownBy wr (some g)) := hGr
    clear hW hdok hFr hRr hGr HF R2 HG
    by_cases hlt : j < l.length
    · obtain ⟨o, rest', hr, hom⟩ : ∃ o rest', rest = o :: rest' ∧ o ∈ l := by
        have := HW.out.r
        rw [← hjd, List.drop_eq_getElem_cons hlt] at this
        exact ⟨_, _, this, List.getElem_mem hlt⟩
      subst hr
      have hok := OK.out o hom
      have hget : (done ++ o :: rest')[j]? = some o := by rw [hjd]; simp
      have hlen : j < (done ++ o :: rest').length := by simp; omega
      have hbr : g < wr.heap.size := by have := HGr.out.size; omega
      obtain ⟨x0, x1, x2, x3, x4, x5⟩ := op_cells (w := wr) (b := g) (off := 0) (i := j) (o := o) (fun k u hk => by rw [Nat.zero_add]; exact HRr.out.c j o hget k u hk)
      rw [Nat.zero_add] at x0 x1 x2 x3 x4 x5
      have hBa : Below wr.heap.size wr (wr.alloc (.cells #[.string o.s, .int .i64 o.d, .int .i64 o.a, .int .i64 o.b, .int .u32 o.i, .int .i64 o.t] 139)) := (Below.refl _ _).alloc (Nat.le_refl _) _
      have hrs := result_known (HFr.out.stays hBa) o hok.rg
      have hlt' : (j : Int) < l.length := by omega
      have HTok : Hid ((toldO f o).ok) := told_ok HFr.out.bd hok
      have HWn : Hid (WkAt l (done ++ [toldO f o]) rest' (learnF f (toldO f o))) := HW.out.next
      have HJD : Hid (j = done.length) := hjd
      have hfz := HRr.out.fz
      clear hget hom hok hjd
      unfold opV at hrs
      go_wp2_with fail
      refine hrs.mono ?_
      rintro e w3 ⟨rfl, hb3⟩
      obtain ⟨c3, f3⟩ := bcell6 hb3
      have HB3 : Hid (Below wr.heap.size wr w3) := hBa.trans (hb3.mono (by simp))
      have hz3 : wr.heap.size < w3.heap.size := by have := hb3.size; simp at this; omega
      have hg3 : g < w3.heap.size := by omega
      have hcg : ∀ j, w3.cell? ⟨g, j, none⟩ = wr.cell? ⟨g, j, none⟩ := fun j => HB3.out.cell (p := ⟨g, j, none⟩) hbr
      have hfg : ∀ j, w3.frozen? ⟨g, j, none⟩ = false := fun j => (HB3.out.frozen (p := ⟨g, j, none⟩) hbr).trans (hfz j)
      have R3 : Hid (OpsRw w3 g (done ++ o :: rest')) := HRr.out.block (HB3.out.block g hbr)
      have F3 : Hid (FactsAt w3 fb (1 + j) f) := HFr.out.stays HB3.out
      have y0 := (hcg (j * 6)).trans x0
      have y1 := (hcg (j * 6 + 1)).trans x1
      have y2 := (hcg (j * 6 + 2)).trans x2
      have y3 := (hcg (j * 6 + 3)).trans x3
      have y4 := (hcg (j * 6 + 4)).trans x4
      have y5 := (hcg (j * 6 + 5)).trans x5
      clear hrs hb3 hBa hcg hfz x0 x1 x2 x3 x4 x5
      cases hres : resF f o with
      | none =>
        have HT : Hid (toldO f o = o) := told_none hres
        rw [HT.out] at HTok HWn
        clear hres
        have hln := learn_any F3.out (by unfold maxLen; omega) o HTok.out
        have R4 := R3
        have G4 : Hid (w.grownBy w3 (some g)) := grown_trans HGr.out (grown_below HB3.out)
        unfold opV at hln
        go_wp2_with fail
        refine hln.mono ?_
        rintro e w5 ⟨rfl, hF5, hg5⟩
        have HF5 : Hid _ := hF5
        have HR5 : Hid _ := R4.out.block (hg5.block g (by omega) (by intro e; have := Option.some.inj e; omega))
        have HG5 : Hid (w.grownBy w5 (some g)) := by
          refine ⟨hg5.os.trans G4.out.os, hg5.tape.trans G4.out.tape, hg5.output.trans G4.out.output, Nat.le_trans G4.out.size hg5.size, fun k hk hn => (hg5.block k (Nat.lt_of_lt_of_le hk G4.out.size) (by intro e; have := Option.some.inj e; omega)).trans (G4.out.block k hk hn)⟩
        clear hln hF5 hg5 c3 f3 y0 y1 y2 y3 y4 y5 hfg
        go_wp2
        go_roundw
        case rel =>
          refine ⟨j + 1, _, rest', _, by rw [HJD.out]; simp, by omega, by go_num, HWn.out, ?_, HF5.out, ?_, HG5.out⟩
          · intro x hx
            rcases List.mem_append.1 hx with hx | hx
            · exact HD.out x hx
            · rw [List.mem_singleton] at hx; rw [hx]; exact HTok.out
          · have := HR5.out; simpa using this
        case measure => simp [intOf]; omega
      | some rv =>
        have HT : Hid (toldO f o = ⟨kindS 1, o.d, 0, 0, rv, o.t⟩) := told_some hres
        rw [HT.out] at HTok HWn
        clear hres
        have R4 : Hid (OpsRw (put6 w3 g (j * 6) ⟨kindS 1, o.d, 0, 0, rv, o.t⟩) g (done ++ ⟨kindS 1, o.d, 0, 0, rv, o.t⟩ :: rest')) := by
          have := R3.out.put hlen ⟨kindS 1, o.d, 0, 0, rv, o.t⟩
          rw [show (done ++ o :: rest').set j ⟨kindS 1, o.d, 0, 0, rv, o.t⟩ = done ++ ⟨kindS 1, o.d, 0, 0, rv, o.t⟩ :: rest' by rw [HJD.out]; simp] at this
          exact this
        have F4 := F3.out.kept (put6_grown w3 g (j * 6) ⟨kindS 1, o.d, 0, 0, rv, o.t⟩) (by omega)
        have G4 : Hid (w.grownBy (put6 w3 g (j * 6) ⟨kindS 1, o.d, 0, 0, rv, o.t⟩) (some g)) := grown_trans (grown_trans HGr.out (grown_below HB3.out)) (put6_grown _ _ _ _)
        have hz4 : (put6 w3 g (j * 6) ⟨kindS 1, o.d, 0, 0, rv, o.t⟩).heap.size = w3.heap.size := by simp [put6, World.setCell]
        have hln := learn_any F4 (by unfold maxLen; omega) ⟨kindS 1, o.d, 0, 0, rv, o.t⟩ HTok.out
        have e1 : (kindS 1 : ByteArray) = ⟨#[115, 101, 116]⟩ := rfl
        have hP : put6 w3 g (j * 6) ⟨kindS 1, o.d, 0, 0, rv, o.t⟩ = (((((w3.setCell ⟨g, j * 6, none⟩ (.string ⟨#[115, 101, 116]⟩)).setCell ⟨g, j * 6 + 1, none⟩ (.int .i64 o.d)).setCell ⟨g, j * 6 + 2, none⟩ (.int .i64 0)).setCell ⟨g, j * 6 + 3, none⟩ (.int .i64 0)).setCell ⟨g, j * 6 + 4, none⟩ (.int .u32 rv)).setCell ⟨g, j * 6 + 5, none⟩ (.int .i64 o.t) := rfl
        clear F4
        unfold opV at hln
        go_wp2_with fail
        rw [← hP]
        clear hP
        generalize put6 w3 g (j * 6) ⟨kindS 1, o.d, 0, 0, rv, o.t⟩ = w4 at *
        refine hln.mono ?_
        rintro e w5 ⟨rfl, hF5, hg5⟩
        have HF5 : Hid _ := hF5
        have HR5 : Hid _ := R4.out.block (hg5.block g (by omega) (by intro e; have := Option.some.inj e; omega))
        have HG5 : Hid (w.grownBy w5 (some g)) := by
          refine ⟨hg5.os.trans G4.out.os, hg5.tape.trans G4.out.tape, hg5.output.trans G4.out.output, Nat.le_trans G4.out.size hg5.size, fun k hk hn => (hg5.block k (Nat.lt_of_lt_of_le hk G4.out.size) (by intro e; have := Option.some.inj e; omega)).trans (G4.out.block k hk hn)⟩
        clear hln hF5 hg5 c3 f3 y0 y1 y2 y3 y4 y5 hfg
        go_wp2
        go_roundw
        case rel =>
          refine ⟨j + 1, _, rest', _, by rw [HJD.out]; simp, by omega, by go_num, HWn.out, ?_, HF5.out, ?_, HG5.out⟩
          · intro x hx
            rcases List.mem_append.1 hx with hx | hx
            · exact HD.out x hx
            · rw [List.mem_singleton] at hx; rw [hx]; exact HTok.out
          · have := HR5.out; simpa using this
        case measure => simp [intOf]; omega
    · obtain rfl : j = l.length := by omega
      go_wp2
      go_end0
      have hr : rest = [] := by rw [HW.out.r, ← hjd, List.drop_length]
      have hd : workF fx0 l = done := by rw [HW.out.e, hr]; simp [workF]
      refine ⟨rfl, ?_, ?_, HGr.out⟩
      · rw [hd]; have := HRr.out; rw [hr, List.append_nil] at this; exact this
      · rw [hd]; exact HD.out
end Go.Proofs.YtflagpkmebdckaaGreatDoor
/-
  slices.Reverse and slices.Clone of ops.
-/
namespace Go.Proofs.YtflagpkmebdckaaGreatDoor
open Go.RowKit Go.Maps
open Num
set_option linter.unusedVariables false
/-- ops of which the first i and the last i have changed places -/
structure RevAt (l L : List Opx) (i : Nat) : Prop where
  len : L.length = l.length
  h : 2 * i ≤ l.length + 1
  at' : ∀ k, k < l.length → L[k]? = if k < i ∨ l.length ≤ k + i then l[l.length - 1 - k]? else l[k]?
theorem RevAt.start (l : List Opx) : RevAt l l 0 := ⟨rfl, by omega, fun k hk => by rw [if_neg (by omega)]⟩
theorem RevAt.done {l L : List Opx} {i : Nat} (R : RevAt l L i) (h : l.length ≤ 2 * i + 1) : L = l.reverse := by
  apply List.ext_getElem?
  intro k
  by_cases hk : k < l.length
  · rw [R.at' k hk, List.getElem?_reverse hk]
    by_cases hc : k < i ∨ l.length ≤ k + i
    · rw [if_pos hc]
    · rw [if_neg hc, show l.length - 1 - k = k by omega]
  · rw [List.getElem?_eq_none (by rw [R.len]; omega), List.getElem?_eq_none (by simp; omega)]
theorem RevAt.next {l L : List Opx} {i : Nat} (R : RevAt l L i) (hi : 2 * i + 1 < l.length) {x y : Opx} (hx : L[i]? = some x) (hy : L[l.length - 1 - i]? = some y) : RevAt l ((L.set i y).set (l.length - 1 - i) x) (i + 1) := by
  have hx' := R.at' i (by omega)
  have hy' := R.at' (l.length - 1 - i) (by omega)
  rw [hx, if_neg (by omega)] at hx'
  rw [hy, if_neg (by omega)] at hy'
  refine ⟨by simp [R.len], by omega, fun k hk => ?_⟩
  rw [List.getElem?_set, List.getElem?_set]
  simp only [List.length_set]
  by_cases h1 : l.length - 1 - i = k
  · rw [if_pos h1, if_pos (by rw [R.len]; omega), if_pos (by omega), ← h1, show l.length - 1 - (l.length - 1 - i) = i by omega]; exact hx'
  · rw [if_neg h1]
    by_cases h2 : i = k
    · rw [if_pos h2, if_pos (by rw [R.len]; omega), if_pos (by omega), ← h2]; exact hy'
    · rw [if_neg h2, R.at' k hk]
      by_cases hc : k < i ∨ l.length ≤ k + i
      · rw [if_pos hc, if_pos (by omega)]
      · rw [if_neg hc, if_neg (by omega)]
theorem OpsRw.drew {w : World} {g : Nat} {l : List Opx} (R : OpsRw w g l) : OpsRw w.drew g l := ⟨R.c, R.fz⟩
theorem grown_drew {w w' : World} {r : Option Nat} (h : w.grownBy w' r) : w.grownBy w'.drew r := ⟨h.os, h.tape, h.output, h.size, h.block⟩
/-- twelve cells of two ops -/
structure TwoO (W : World) (g a b : Nat) (x y : Opx) : Prop where
  x0 : W.cell? ⟨g, a, none⟩ = some (.string x.s)
  x1 : W.cell? ⟨g, a + 1, none⟩ = some (.int .i64 x.d)
  x2 : W.cell? ⟨g, a + 2, none⟩ = some (.int .i64 x.a)
  x3 : W.cell? ⟨g, a + 3, none⟩ = some (.int .i64 x.b)
  x4 : W.cell? ⟨g, a + 4, none⟩ = some (.int .u32 x.i)
  x5 : W.cell? ⟨g, a + 5, none⟩ = some (.int .i64 x.t)
  y0 : W.cell? ⟨g, b, none⟩ = some (.string y.s)
  y1 : W.cell? ⟨g, b + 1, none⟩ = some (.int .i64 y.d)
  y2 : W.cell? ⟨g, b + 2, none⟩ = some (.int .i64 y.a)
  y3 : W.cell? ⟨g, b + 3, none⟩ = some (.int .i64 y.b)
  y4 : W.cell? ⟨g, b + 4, none⟩ = some (.int .u32 y.i)
  y5 : W.cell? ⟨g, b + 5, none⟩ = some (.int .i64 y.t)
theorem OpsRw.six {w : World} {g i : Nat} {l : List Opx} {o : Opx} (R : OpsRw w g l) (h : l[i]? = some o) : w.cell? ⟨g, i * 6, none⟩ = some (.string o.s) ∧ w.cell? ⟨g, i * 6 + 1, none⟩ = some (.int .i64 o.d) ∧ w.cell? ⟨g, i * 6 + 2, none⟩ = some (.int .i64 o.a) ∧ w.cell? ⟨g, i * 6 + 3, none⟩ = some (.int .i64 o.b) ∧ w.cell? ⟨g, i * 6 + 4, none⟩ = some (.int .u32 o.i) ∧ w.cell? ⟨g, i * 6 + 5, none⟩ = some (.int .i64 o.t) :=
  ⟨R.c i o h 0 _ rfl, R.c i o h 1 _ rfl, R.c i o h 2 _ rfl, R.c i o h 3 _ rfl, R.c i o h 4 _ rfl, R.c i o h 5 _ rfl⟩
set_option maxRecDepth 100000 in
set_option maxHeartbeats 4000000 in
theorem reverse_any {w : World} {g cap : Nat} {l : List Opx} (R : OpsRw w g l) (hl : (l.length : Int) ≤ 1000000) (hc : l.length ≤ cap) :
    Calls Tryz.prog 138 #[.slice (some ⟨g, 0, none⟩) l.length cap] w fun e w' => e = .returned (.tuple #[]) ∧ OpsRw w' g l.reverse ∧ w.grownBy w' (some g) := by
  have RH : Hid (OpsRw w g l) := R
  clear R
  go_enter Tryz.func138, Tryz.ntmps138
  go_wp2
  go_loopw [2, 3] (fun a b wr => ∃ (i : Nat) (L : List Opx), a = .int .i64 i ∧ b = .int .i64 ((l.length : Int) - 1 - i) ∧ RevAt l L i ∧ OpsRw wr g L ∧ w.grownBy wr (some g)) (fun a _ _ => l.length - (intOf a).toNat)
  case atStart => exact ⟨0, l, rfl, by simp, RevAt.start l, RH.out, grown_refl _ _⟩
  case round =>
    obtain ⟨i, L, rfl, rfl, hV, hR, hG⟩ := hrel
    have HV : Hid (RevAt l L i) := hV
    have HR : Hid (OpsRw wr g L) := hR
    have HG : Hid (w.grownBy wr (some g)) := hG
    have hi2 := hV.h
    have hL := hV.len
    clear hV hR hG RH
    by_cases hlt : 2 * i + 1 < l.length
    · obtain ⟨jn, hjn⟩ : ∃ jn : Nat, l.length - 1 - i = jn := ⟨_, rfl⟩
      have ej : (l.length : Int) - 1 - i = jn := by omega
      have hlt' : (i : Int) < jn := by omega
      have HJ : Hid (l.length - 1 - i = jn) := hjn
      obtain ⟨x, hx⟩ : ∃ x, L[i]? = some x := ⟨_, List.getElem?_eq_getElem (by omega)⟩
      obtain ⟨y, hy⟩ : ∃ y, L[jn]? = some y := ⟨_, List.getElem?_eq_getElem (by omega)⟩
      obtain ⟨x0, x1, x2, x3, x4, x5⟩ := HR.out.six hx
      obtain ⟨y0, y1, y2, y3, y4, y5⟩ := HR.out.six hy
      have hfz := HR.out.fz
      have q2 : (jn : Int) < l.length := by omega
      have q3 : (i : Int) < l.length := by omega
      have hgz : g < wr.heap.size := World.block_lt_of_cell? _ _ x0
      have R1 : Hid (OpsRw (put6 (put6 wr g (i * 6) y) g (jn * 6) x) g ((L.set i y).set jn x)) := (HR.out.put (by omega) y).put (by simp; omega) x
      have G1 : Hid (w.grownBy (put6 (put6 wr g (i * 6) y) g (jn * 6) x) (some g)) := grown_trans (grown_trans HG.out (put6_grown _ _ _ _)) (put6_grown _ _ _ _)
      have V1 : Hid (RevAt l ((L.set i y).set jn x) (i + 1)) := by
        have := HV.out.next hlt hx (by rw [HJ.out]; exact hy)
        rw [HJ.out] at this; exact this
      have P1 : OpsRw (put6 wr g (i * 6) y) g (L.set i y) := HR.out.put (by omega) y
      obtain ⟨p0, p1, p2, p3, p4, p5⟩ := P1.six (i := jn) (o := y) (by rw [List.getElem?_set, if_neg (by omega)]; exact hy)
      have pf := P1.fz
      have hP : put6 wr g (i * 6) y = (((((wr.setCell ⟨g, i * 6, none⟩ (.string y.s)).setCell ⟨g, i * 6 + 1, none⟩ (.int .i64 y.d)).setCell ⟨g, i * 6 + 2, none⟩ (.int .i64 y.a)).setCell ⟨g, i * 6 + 3, none⟩ (.int .i64 y.b)).setCell ⟨g, i * 6 + 4, none⟩ (.int .u32 y.i)).setCell ⟨g, i * 6 + 5, none⟩ (.int .i64 y.t) := rfl
      have pz : g < (put6 wr g (i * 6) y).heap.size := P1.lt (by simp; omega)
      clear hx hy P1 hjn
      rw [ej]
      clear ej hlt hi2
      go_wp2
      refine wp_region_phase 13 [(0, 0), (1, 0), (2, 0), (3, 0), (4, 0), (5, 0), (6, 0), (7, 1), (8, 0), (9, 0), (10, 0), (11, 1), (12, 0), (13, 2), (14, 0), (15, 2)] (fun W => TwoO W g (i * 6) (jn * 6) x y) (by kernel_rfl) (by kernel_rfl) (fun _ _ _ d _ h => by cases d <;> exact h) ⟨by simpa using x0, by simpa using x1, by simpa using x2, by simpa using x3, by simpa using x4, by simpa using x5, by simpa using y0, by simpa using y1, by simpa using y2, by simpa using y3, by simpa using y4, by simpa using y5⟩ ?_
      repeat (first | (refine wpPlanZ_free (by rfl) (by rfl) (fun W => by (go_simp; try with_reducible rfl)) (fun K hK => ?_); go_simp; refine hK _ ?_; clear hK K) | (refine wpPlanZ_quiet (by rfl) (by rfl) (fun W hW => by (obtain ⟨z0, z1, z2, z3, z4, z5, z6, z7, z8, z9, za, zb⟩ := hW; go_simp; try with_reducible rfl)) (fun K hK => ?_); go_simp; refine hK _ ?_; clear hK K))
      refine wpPlanZ_serial (by rfl) (by rfl) (fun K hK => ?_)
      go_simp
      refine hK _ _ (fun h => absurd h (by decide)) ?_
      clear hK K
      rw [← hP]
      clear hP x0 x1 x2 x3 x4 x5 y0 y1 y2 y3 y4 y5 hfz
      generalize put6 wr g (i * 6) y = W1 at *
      repeat (refine wpPlanZ_free (by rfl) (by rfl) (fun W => by (go_simp; try with_reducible rfl)) (fun K hK => ?_); go_simp; refine hK _ ?_; clear hK K)
      refine wpPlanZ_serial (by rfl) (by rfl) (fun K hK => ?_)
      go_simp
      refine hK _ _ (fun h => absurd h (by decide)) ?_
      clear hK K
      refine wpPlanZ_nil ?_
      have hP : (((((W1.setCell ⟨g, jn * 6, none⟩ (.string x.s)).setCell ⟨g, jn * 6 + 1, none⟩ (.int .i64 x.d)).setCell ⟨g, jn * 6 + 2, none⟩ (.int .i64 x.a)).setCell ⟨g, jn * 6 + 3, none⟩ (.int .i64 x.b)).setCell ⟨g, jn * 6 + 4, none⟩ (.int .u32 x.i)).setCell ⟨g, jn * 6 + 5, none⟩ (.int .i64 x.t) = put6 W1 g (jn * 6) x := rfl
      rw [hP]
      clear hP p0 p1 p2 p3 p4 p5 pf pz
      have R2 : Hid (OpsRw (put6 W1 g (jn * 6) x).drew g ((L.set i y).set jn x)) := R1.out.drew
      have G2 : Hid (w.grownBy (put6 W1 g (jn * 6) x).drew (some g)) := grown_drew G1.out
      clear R1 G1
      generalize (put6 W1 g (jn * 6) x).drew = W2 at *
      go_wp2
      go_roundw
      case rel =>
        refine ⟨i + 1, _, by go_num, ?_, V1.out, R2.out, G2.out⟩
        congr 1
        have := HJ.out
        omega
      case measure => simp [intOf]; omega
    · have hlt' : ¬ (i : Int) < (l.length : Int) - 1 - i := by omega
      go_wp2
      go_end0
      refine ⟨rfl, ?_, HG.out⟩
      rw [← HV.out.done (by omega)]; exact HR.out
end Go.Proofs.YtflagpkmebdckaaGreatDoor
/-
  slices.Clone of ops.
-/
namespace Go.Proofs.YtflagpkmebdckaaGreatDoor
open Go.RowKit Go.Maps
open Num
set_option linter.unusedVariables false
theorem rw_of_row {w : World} {base cap n g : Nat} {l : List Opx} (h : w.ownsRow base 139 6 (.slice (some ⟨g, 0, none⟩) n cap) l.length (opL l)) : OpsRw w g l := by
  obtain ⟨h1, h2⟩ := h
  rcases h2 with ⟨hv, _⟩ | ⟨g', cap', cur, hv, hb, hg, r1, r2, r3, r4⟩
  · cases hv
  · cases hv
    refine ⟨fun i o hi j u hj => ?_, fun j => by simp [World.frozen?, hg]⟩
    rw [cell_of_row _ _ _ _ _ _ hg]
    have hin : i < l.length := (List.getElem?_eq_some_iff.1 hi).1
    have hj6 : j < 6 := (List.getElem?_eq_some_iff.1 hj).1
    have : (opL l)[i * 6 + j]? = some u := by rw [opL_get l i o j hi hj6]; exact hj
    rw [← r4, List.getElem?_take, if_pos (by omega)] at this
    rw [← Array.getElem?_toList]; exact this
set_option maxRecDepth 100000 in
set_option maxHeartbeats 2000000 in
theorem clone_any {w : World} {v : Value} {l : List Opx} (A : OpsIn w v l) (hl : l.length ≤ 1000000) (hpos : 0 < l.length) :
    Calls Tryz.prog 72 #[v] w fun e w' => ∃ g cap, e = .returned (.slice (some ⟨g, 0, none⟩) l.length cap) ∧ l.length ≤ cap ∧ OpsRw w' g l ∧ w.heap.size ≤ g ∧ Below w.heap.size w w' := by
  obtain ⟨ao, cap, rfl, hc, hh⟩ := A.sh
  obtain ⟨b, off, rfl, hcell⟩ := hh hpos
  obtain ⟨i0, hi, iz0, iz1, iz2⟩ := info_parts infoOp
  have hnews0 : ∀ j u, (opL l)[j]? = some u → w.cell? ((⟨b, off, none⟩ : Addr).add j) = some u := opL_at hcell
  have hq := fun w => Go.Lib.run_eql_slice_some_nil (P := Tryz.prog) w (t := 52) (e := 139) ⟨b, off, none⟩ l.length cap Tryz.underlying52
  have hO : (w.alloc (.cells #[] 139)).ownsRow w.heap.size 139 6 (.slice (some ⟨w.heap.size, 0, none⟩) 0 0) 0 [] := ⟨rfl, .inr ⟨w.heap.size, 0, #[], rfl, Nat.le_refl _, heap_alloc_new w _, Nat.le_refl _, Nat.zero_le _, rfl, rfl⟩⟩
  have hnews : ∀ j u, (opL l)[j]? = some u → (w.alloc (.cells #[] 139)).cell? ((⟨b, off, none⟩ : Addr).add j) = some u := fun j u hj => (World.grownBy_alloc w _ none).cell (hnews0 j u hj) (by simp)
  clear A hh hcell
  go_enter Tryz.func72, Tryz.ntmps72
  go_wp2_with (at_builtin; refine wpList_append_moved rfl _ _ 52 rfl w.heap.size 139 i0 _ 6 56 Tryz.underlying52 hi iz0 iz1 iz2 rfl (by decide) (.slice (some ⟨w.heap.size, 0, none⟩) 0 0) 0 [] rfl hO ⟨b, off, none⟩ l.length cap (opL l) rfl (opL_len l) hnews (opL_one l) (by unfold maxLen; omega) (by omega) (by simp) ?_; intro v' w3 ho hg hm)
  go_ret
  rw [Nat.zero_add, List.nil_append] at ho
  obtain ⟨n, hn⟩ : ∃ n, l.length = n + 1 := ⟨l.length - 1, by omega⟩
  have ho' := ho
  rw [hn] at ho'
  obtain ⟨g, cap', hv, hge⟩ := own_posg ho'
  rw [← hn] at hv
  subst hv
  refine ⟨g, cap', rfl, ?_, rw_of_row ho, hge, ((Below.refl _ w).alloc (Nat.le_refl _) _).grown hg (by simp) (fun k e => by have : w.heap.size = k := Option.some.inj e; omega)⟩
  rcases ho.2 with ⟨hv, _⟩ | ⟨_, _, _, hv, _, _, r1, _⟩
  · cases hv
  · cases hv; exact r1
end Go.Proofs.YtflagpkmebdckaaGreatDoor
/-
  The document's classOf and rowError.
-/
namespace Go.Proofs.YtflagpkmebdckaaGreatDoor
open Go.RowKit Go.Maps
open Num
set_option linter.unusedVariables false
end Go.Proofs.YtflagpkmebdckaaGreatDoor
/-
  The document's PlanFault.
-/
namespace Go.Proofs.YtflagpkmebdckaaGreatDoor
open Go.RowKit Go.Maps
open Num
set_option linter.unusedVariables false
end Go.Proofs.YtflagpkmebdckaaGreatDoor
