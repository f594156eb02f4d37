/-
  Package opt: ops that are told, in place.
-/
import Derived.Test.YtcccaejjhodnkaaDoorOptKnown
import Derived.Test.YtcccaejjhodnkaaDoorValBd
namespace Go.Proofs.YtcccaejjhodnkaaDoor
open Go.RowKit Go.Maps
open Num
set_option linter.unusedVariables false
/-- block g holds ops, from its first cell on, and may be written -/
structure OpsRw (w : World) (g : Nat) (l : List Opx) : Prop where
  c : ∀ (i : Nat) (o : Opx), l[i]? = some o → ∀ (j : Nat) (u : Value), (opC o)[j]? = some u → w.cell? ⟨g, i * 6 + j, none⟩ = some u
  fz : ∀ j, w.frozen? ⟨g, j, none⟩ = false
theorem OpsRw.block {w w' : World} {g : Nat} {l : List Opx} (R : OpsRw w g l) (h : w'.heap[g]? = w.heap[g]?) : OpsRw w' g l :=
  ⟨fun i o hi j u hj => (World.cell?_of_block (a := ⟨g, i * 6 + j, none⟩) h).trans (R.c i o hi j u hj), fun j => (World.frozen?_of_block (a := ⟨g, j, none⟩) h).trans (R.fz j)⟩
theorem OpsRw.lt {w : World} {g : Nat} {l : List Opx} (R : OpsRw w g l) (h : 0 < l.length) : g < w.heap.size := World.block_lt_of_cell? _ _ (R.c 0 _ (List.getElem?_eq_getElem h) 0 _ rfl)
theorem OpsRw.in {w : World} {g cap : Nat} {l : List Opx} (R : OpsRw w g l) (hc : l.length ≤ cap) (ok : ∀ o ∈ l, o.ok) : OpsIn w (.slice (some ⟨g, 0, none⟩) l.length cap) l :=
  ⟨⟨_, cap, rfl, hc, fun _ => ⟨g, 0, rfl, fun i o hi j u hj => by rw [Nat.zero_add]; exact R.c i o hi j u hj⟩⟩, ok⟩
def put6 (w : World) (g a : Nat) (o : Opx) : World := (((((w.setCell ⟨g, a, none⟩ (.string o.s)).setCell ⟨g, a + 1, none⟩ (.int .i64 o.d)).setCell ⟨g, a + 2, none⟩ (.int .i64 o.a)).setCell ⟨g, a + 3, none⟩ (.int .i64 o.b)).setCell ⟨g, a + 4, none⟩ (.int .u32 o.i)).setCell ⟨g, a + 5, none⟩ (.int .i64 o.t)
theorem set_same {w : World} {a : Addr} {v : Value} (h : (w.cell? a).isSome = true) : (w.setCell a v).cell? a = some v := World.cell?_setCell_same' w a v h
theorem set_other {w : World} {g i j : Nat} {v : Value} (h : i ≠ j) : (w.setCell ⟨g, i, none⟩ v).cell? ⟨g, j, none⟩ = w.cell? ⟨g, j, none⟩ := World.cell?_setCell_other _ _ _ _ (by intro e; injection e with _ e; exact h (by omega))
theorem OpsRw.put {w : World} {g n : Nat} {l : List Opx} (R : OpsRw w g l) (hn : n < l.length) (o' : Opx) : OpsRw (put6 w g (n * 6) o') g (l.set n o') := by
  have old : ∀ j, j < 6 → (w.cell? ⟨g, n * 6 + j, none⟩).isSome = true := by
    intro j hj
    have := R.c n _ (List.getElem?_eq_getElem hn) j
    have h6 : (opC l[n]).length = 6 := rfl
    rw [this _ (List.getElem?_eq_getElem (by omega))]; rfl
  refine ⟨fun i o hi j u hj => ?_, fun j => ?_⟩
  · have hj6 : j < 6 := (List.getElem?_eq_some_iff.1 hj).1
    rw [List.getElem?_set] at hi
    by_cases e : n = i
    · rw [if_pos e, if_pos hn] at hi
      cases hi
      subst e
      unfold put6
      have o0 := old 0 (by omega)
      have o1 := old 1 (by omega)
      have o2 := old 2 (by omega)
      have o3 := old 3 (by omega)
      have o4 := old 4 (by omega)
      have o5 := old 5 (by omega)
      rw [Nat.add_zero] at o0
      have hc : j = 0 ∨ j = 1 ∨ j = 2 ∨ j = 3 ∨ j = 4 ∨ j = 5 := by omega
      rcases hc with rfl | rfl | rfl | rfl | rfl | rfl
      · cases hj
        rw [set_other (by omega), set_other (by omega), set_other (by omega), set_other (by omega), set_other (by omega)]
        exact set_same o0
      · cases hj
        rw [set_other (by omega), set_other (by omega), set_other (by omega), set_other (by omega), set_same (by rw [set_other (by omega)]; exact o1)]
      · cases hj
        rw [set_other (by omega), set_other (by omega), set_other (by omega), set_same (by rw [set_other (by omega), set_other (by omega)]; exact o2)]
      · cases hj
        rw [set_other (by omega), set_other (by omega), set_same (by rw [set_other (by omega), set_other (by omega), set_other (by omega)]; exact o3)]
      · cases hj
        rw [set_other (by omega), set_same (by rw [set_other (by omega), set_other (by omega), set_other (by omega), set_other (by omega)]; exact o4)]
      · cases hj
        rw [set_same (by rw [set_other (by omega), set_other (by omega), set_other (by omega), set_other (by omega), set_other (by omega)]; exact o5)]
    · rw [if_neg e] at hi
      unfold put6
      rw [set_other (by omega), set_other (by omega), set_other (by omega), set_other (by omega), set_other (by omega), set_other (by omega)]
      exact R.c i o hi j u hj
  · unfold put6
    simp only [World.frozen?_setCell]
    exact R.fz j
theorem put6_grown (w : World) (g a : Nat) (o : Opx) : w.grownBy (put6 w g a o) (some g) := by
  unfold put6
  exact grown_trans (grown_trans (grown_trans (grown_trans (grown_trans (grown_set _ _) (grown_set ⟨g, a + 1, none⟩ _)) (grown_set ⟨g, a + 2, none⟩ _)) (grown_set ⟨g, a + 3, none⟩ _)) (grown_set ⟨g, a + 4, none⟩ _)) (grown_set ⟨g, a + 5, none⟩ _)
theorem FactsAt.kept {w w' : World} {b N g : Nat} {f : Fx} (F : FactsAt w b N f) (h : w.grownBy w' (some g)) (hne : b ≠ g) : FactsAt w' b N f := by
  obtain ⟨D, h1, h2, h3⟩ := F.own
  exact ⟨⟨D, h1.kept h (by intro e; exact hne (Option.some.inj e)), h2, h3⟩, F.bd⟩
/-- told so far: done, the rest, what is known -/
structure WkAt (l done rest : List Opx) (f : Fx) : Prop where
  e : workF fx0 l = done ++ workF f rest
  r : rest = l.drop done.length
theorem WkAt.next {l done rest : List Opx} {f : Fx} {o : Opx} (W : WkAt l done (o :: rest) f) : WkAt l (done ++ [toldO f o]) rest (learnF f (toldO f o)) := by
  refine ⟨by rw [W.e]; simp [workF], ?_⟩
  have := W.r
  rw [List.length_append, List.length_singleton, ← List.drop_drop, ← this]; rfl
set_option maxRecDepth 100000 in
set_option maxHeartbeats 4000000 in
theorem workOut_any {w : World} {g cap : Nat} {l : List Opx} (R : OpsRw w g l) (hl : (l.length : Int) ≤ 1000000) (hc : l.length ≤ cap) (ok : ∀ o ∈ l, o.ok) (hpos : 0 < l.length) :
    Calls Tryd.prog 65 #[.slice (some ⟨g, 0, none⟩) l.length cap] w fun e w' => e = .returned (.tuple #[]) ∧ OpsRw w' g (workF fx0 l) ∧ (∀ o ∈ workF fx0 l, o.ok) ∧ w.grownBy w' (some g) := by
  have RH : Hid (OpsRw w g l) := R
  have hgz := R.lt hpos
  have OK : Hid (∀ o ∈ l, o.ok) := ok
  clear R ok
  go_enter Tryd.func65, Tryd.ntmps65
  go_wp2_with fail
  refine (newFacts_any _).mono ?_
  rintro e w2 ⟨fb, rfl, hF, hb2, hfb⟩
  have R2 : Hid (OpsRw w2 g l) := RH.out.block (hb2.block g hgz)
  have HF : Hid (FactsAt w2 fb 1 fx0) := hF
  have HG : Hid (w.grownBy w2 (some g)) := grown_below hb2
  clear hF hb2 RH
  go_wp2
  go_loopw [10] (fun i wr => ∃ (j : Nat) (done rest : List Opx) (f : Fx), j = done.length ∧ j ≤ l.length ∧ i = .int .i64 j ∧ WkAt l done rest f ∧ (∀ o ∈ done, o.ok) ∧ FactsAt wr fb (1 + j) f ∧ OpsRw wr g (done ++ rest) ∧ w.grownBy wr (some g)) (fun i _ => l.length - (intOf i).toNat)
  case atStart => exact ⟨0, [], l, fx0, rfl, Nat.zero_le _, rfl, ⟨rfl, rfl⟩, by simp, HF.out, R2.out, HG.out⟩
  case round =>
    obtain ⟨j, done, rest, f, hjd, hj, rfl, hW, hdok, hFr, hRr, hGr⟩ := hrel
    have HW : Hid (WkAt l done rest f) := hW
    have HD : Hid (∀ o ∈ done, o.ok) := hdok
    have HFr : Hid (FactsAt wr fb (1 + j) f) := hFr
    have HRr : Hid (OpsRw wr g (done ++ rest)) := hRr
    have HGr : Hid (w.grownBy wr (some g)) := hGr
    clear hW hdok hFr hRr hGr HF R2 HG
    by_cases hlt : j < l.length
    · obtain ⟨o, rest', hr, hom⟩ : ∃ o rest', rest = o :: rest' ∧ o ∈ l := by
        have := HW.out.r
        rw [← hjd, List.drop_eq_getElem_cons hlt] at this
        exact ⟨_, _, this, List.getElem_mem hlt⟩
      subst hr
      have hok := OK.out o hom
      have hget : (done ++ o :: rest')[j]? = some o := by rw [hjd]; simp
      have hlen : j < (done ++ o :: rest').length := by simp; omega
      have hbr : g < wr.heap.size := by have := HGr.out.size; omega
      obtain ⟨x0, x1, x2, x3, x4, x5⟩ := op_cells (w := wr) (b := g) (off := 0) (i := j) (o := o) (fun k u hk => by rw [Nat.zero_add]; exact HRr.out.c j o hget k u hk)
      rw [Nat.zero_add] at x0 x1 x2 x3 x4 x5
      have hBa : Below wr.heap.size wr (wr.alloc (.cells #[.string o.s, .int .i64 o.d, .int .i64 o.a, .int .i64 o.b, .int .u32 o.i, .int .i64 o.t] 60)) := (Below.refl _ _).alloc (Nat.le_refl _) _
      have hrs := result_known (HFr.out.stays hBa) o hok.rg
      have hlt' : (j : Int) < l.length := by omega
      have HTok : Hid ((toldO f o).ok) := told_ok HFr.out.bd hok
      have HWn : Hid (WkAt l (done ++ [toldO f o]) rest' (learnF f (toldO f o))) := HW.out.next
      have HJD : Hid (j = done.length) := hjd
      have hfz := HRr.out.fz
      clear hget hom hok hjd
      unfold opV at hrs
      go_wp2_with fail
      refine hrs.mono ?_
      rintro e w3 ⟨rfl, hb3⟩
      obtain ⟨c3, f3⟩ := bcell6 hb3
      have HB3 : Hid (Below wr.heap.size wr w3) := hBa.trans (hb3.mono (by simp))
      have hz3 : wr.heap.size < w3.heap.size := by have := hb3.size; simp at this; omega
      have hg3 : g < w3.heap.size := by omega
      have hcg : ∀ j, w3.cell? ⟨g, j, none⟩ = wr.cell? ⟨g, j, none⟩ := fun j => HB3.out.cell (p := ⟨g, j, none⟩) hbr
      have hfg : ∀ j, w3.frozen? ⟨g, j, none⟩ = false := fun j => (HB3.out.frozen (p := ⟨g, j, none⟩) hbr).trans (hfz j)
      have R3 : Hid (OpsRw w3 g (done ++ o :: rest')) := HRr.out.block (HB3.out.block g hbr)
      have F3 : Hid (FactsAt w3 fb (1 + j) f) := HFr.out.stays HB3.out
      have y0 := (hcg (j * 6)).trans x0
      have y1 := (hcg (j * 6 + 1)).trans x1
      have y2 := (hcg (j * 6 + 2)).trans x2
      have y3 := (hcg (j * 6 + 3)).trans x3
      have y4 := (hcg (j * 6 + 4)).trans x4
      have y5 := (hcg (j * 6 + 5)).trans x5
      clear hrs hb3 hBa hcg hfz x0 x1 x2 x3 x4 x5
      cases hres : resF f o with
      | none =>
        have HT : Hid (toldO f o = o) := told_none hres
        rw [HT.out] at HTok HWn
        clear hres
        have hln := learn_any F3.out (by unfold maxLen; omega) o HTok.out
        have R4 := R3
        have G4 : Hid (w.grownBy w3 (some g)) := grown_trans HGr.out (grown_below HB3.out)
        unfold opV at hln
        go_wp2_with fail
        refine hln.mono ?_
        rintro e w5 ⟨rfl, hF5, hg5⟩
        have HF5 : Hid _ := hF5
        have HR5 : Hid _ := R4.out.block (hg5.block g (by omega) (by intro e; have := Option.some.inj e; omega))
        have HG5 : Hid (w.grownBy w5 (some g)) := by
          refine ⟨hg5.os.trans G4.out.os, hg5.tape.trans G4.out.tape, hg5.output.trans G4.out.output, Nat.le_trans G4.out.size hg5.size, fun k hk hn => (hg5.block k (Nat.lt_of_lt_of_le hk G4.out.size) (by intro e; have := Option.some.inj e; omega)).trans (G4.out.block k hk hn)⟩
        clear hln hF5 hg5 c3 f3 y0 y1 y2 y3 y4 y5 hfg
        go_wp2
        go_roundw
        case rel =>
          refine ⟨j + 1, _, rest', _, by rw [HJD.out]; simp, by omega, by go_num, HWn.out, ?_, HF5.out, ?_, HG5.out⟩
          · intro x hx
            rcases List.mem_append.1 hx with hx | hx
            · exact HD.out x hx
            · rw [List.mem_singleton] at hx; rw [hx]; exact HTok.out
          · have := HR5.out; simpa using this
        case measure => simp [intOf]; omega
      | some rv =>
        have HT : Hid (toldO f o = ⟨kindS 1, o.d, 0, 0, rv, o.t⟩) := told_some hres
        rw [HT.out] at HTok HWn
        clear hres
        have R4 : Hid (OpsRw (put6 w3 g (j * 6) ⟨kindS 1, o.d, 0, 0, rv, o.t⟩) g (done ++ ⟨kindS 1, o.d, 0, 0, rv, o.t⟩ :: rest')) := by
          have := R3.out.put hlen ⟨kindS 1, o.d, 0, 0, rv, o.t⟩
          rw [show (done ++ o :: rest').set j ⟨kindS 1, o.d, 0, 0, rv, o.t⟩ = done ++ ⟨kindS 1, o.d, 0, 0, rv, o.t⟩ :: rest' by rw [HJD.out]; simp] at this
          exact this
        have F4 := F3.out.kept (put6_grown w3 g (j * 6) ⟨kindS 1, o.d, 0, 0, rv, o.t⟩) (by omega)
        have G4 : Hid (w.grownBy (put6 w3 g (j * 6) ⟨kindS 1, o.d, 0, 0, rv, o.t⟩) (some g)) := grown_trans (grown_trans HGr.out (grown_below HB3.out)) (put6_grown _ _ _ _)
        have hz4 : (put6 w3 g (j * 6) ⟨kindS 1, o.d, 0, 0, rv, o.t⟩).heap.size = w3.heap.size := by simp [put6, World.setCell]
        have hln := learn_any F4 (by unfold maxLen; omega) ⟨kindS 1, o.d, 0, 0, rv, o.t⟩ HTok.out
        have e1 : (kindS 1 : ByteArray) = ⟨#[115, 101, 116]⟩ := rfl
        have hP : put6 w3 g (j * 6) ⟨kindS 1, o.d, 0, 0, rv, o.t⟩ = (((((w3.setCell ⟨g, j * 6, none⟩ (.string ⟨#[115, 101, 116]⟩)).setCell ⟨g, j * 6 + 1, none⟩ (.int .i64 o.d)).setCell ⟨g, j * 6 + 2, none⟩ (.int .i64 0)).setCell ⟨g, j * 6 + 3, none⟩ (.int .i64 0)).setCell ⟨g, j * 6 + 4, none⟩ (.int .u32 rv)).setCell ⟨g, j * 6 + 5, none⟩ (.int .i64 o.t) := rfl
        clear F4
        unfold opV at hln
        go_wp2_with fail
        rw [← hP]
        clear hP
        generalize put6 w3 g (j * 6) ⟨kindS 1, o.d, 0, 0, rv, o.t⟩ = w4 at *
        refine hln.mono ?_
        rintro e w5 ⟨rfl, hF5, hg5⟩
        have HF5 : Hid _ := hF5
        have HR5 : Hid _ := R4.out.block (hg5.block g (by omega) (by intro e; have := Option.some.inj e; omega))
        have HG5 : Hid (w.grownBy w5 (some g)) := by
          refine ⟨hg5.os.trans G4.out.os, hg5.tape.trans G4.out.tape, hg5.output.trans G4.out.output, Nat.le_trans G4.out.size hg5.size, fun k hk hn => (hg5.block k (Nat.lt_of_lt_of_le hk G4.out.size) (by intro e; have := Option.some.inj e; omega)).trans (G4.out.block k hk hn)⟩
        clear hln hF5 hg5 c3 f3 y0 y1 y2 y3 y4 y5 hfg
        go_wp2
        go_roundw
        case rel =>
          refine ⟨j + 1, _, rest', _, by rw [HJD.out]; simp, by omega, by go_num, HWn.out, ?_, HF5.out, ?_, HG5.out⟩
          · intro x hx
            rcases List.mem_append.1 hx with hx | hx
            · exact HD.out x hx
            · rw [List.mem_singleton] at hx; rw [hx]; exact HTok.out
          · have := HR5.out; simpa using this
        case measure => simp [intOf]; omega
    · obtain rfl : j = l.length := by omega
      go_wp2
      go_end0
      have hr : rest = [] := by rw [HW.out.r, ← hjd, List.drop_length]
      have hd : workF fx0 l = done := by rw [HW.out.e, hr]; simp [workF]
      refine ⟨rfl, ?_, ?_, HGr.out⟩
      · rw [hd]; have := HRr.out; rw [hr, List.append_nil] at this; exact this
      · rw [hd]; exact HD.out
end Go.Proofs.YtcccaejjhodnkaaDoor
