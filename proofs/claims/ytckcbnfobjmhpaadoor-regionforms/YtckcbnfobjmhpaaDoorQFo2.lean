/-
  The document's FormOf.
-/
import Derived.Deep.CutRange
import Derived.Deep.CutBlock
import Derived.Test.YtckcbnfobjmhpaaDoorQFo1
namespace Go.Proofs.YtckcbnfobjmhpaaDoor
open Go.RowKit Go.Maps
open Num
set_option linter.unusedVariables false
structure RZ36 (w : World) (rb : Nat) : Prop where
  r0 : w.cell? ⟨rb, 0, none⟩ = some (.int .u32 0)
  r1 : w.cell? ⟨rb, 1, none⟩ = some (.slice none 0 0)
  r2 : w.cell? ⟨rb, 2, none⟩ = some (.slice none 0 0)
  fz : ∀ j, w.frozen? ⟨rb, j, none⟩ = false
theorem RZ36.stays {w w' : World} {rb C : Nat} (z : RZ36 w rb) (h : Below C w w') (hC : rb < C) : RZ36 w' rb := by
  have c : ∀ j, w'.cell? ⟨rb, j, none⟩ = w.cell? ⟨rb, j, none⟩ := fun j => h.cell (p := ⟨rb, j, none⟩) hC
  exact ⟨(c 0).trans z.r0, (c 1).trans z.r1, (c 2).trans z.r2, fun j => (h.frozen (p := ⟨rb, j, none⟩) hC).trans (z.fz j)⟩
theorem put3_load36 {W : World} {B : Nat} {a b c : Value} (z : RZ36 W B) : (loadVar 56 ⟨B, 0, none⟩).run Tryd.prog (put3 W B a b c) = .ok (.agg #[a, b, c]) (put3 W B a b c) := by
  have oo : ∀ (W : World) (i j : Nat) (x : Value), i ≠ j → (W.setCell ⟨B, j, none⟩ x).cell? ⟨B, i, none⟩ = W.cell? ⟨B, i, none⟩ := fun W i j x hij => World.cell?_setCell_other _ _ _ _ (by intro e; injection e with e1 e2; exact hij e2.symm)
  have h0 : (put3 W B a b c).cell? ⟨B, 0, none⟩ = some a := by
    unfold put3
    rw [oo _ 0 2 _ (by omega), oo _ 0 1 _ (by omega)]; exact World.cell?_setCell_same _ _ _ z.r0
  have h1 : (put3 W B a b c).cell? ⟨B, 1, none⟩ = some b := by
    unfold put3
    rw [oo _ 1 2 _ (by omega)]; exact World.cell?_setCell_same _ _ _ (by rw [oo _ 1 0 _ (by omega)]; exact z.r1)
  have h2 : (put3 W B a b c).cell? ⟨B, 2, none⟩ = some c := by
    unfold put3
    exact World.cell?_setCell_same _ _ _ (by rw [oo _ 2 1 _ (by omega), oo _ 2 0 _ (by omega)]; exact z.r2)
  generalize put3 W B a b c = V at *
  exact reg_load36 h0 h1 h2
/-- the pages so far -/
structure PgRow (w1 W w : World) (xb : Nat) (pc : Int) (n : Nat) (m : Nat → Int) (vi : Value) (k : Nat) (vp : Value) : Prop where
  c0 : w.cell? ⟨xb, 0, none⟩ = some (.int .u32 pc)
  c1 : w.cell? ⟨xb, 1, none⟩ = some vi
  c2 : w.cell? ⟨xb, 2, none⟩ = some vp
  fz : ∀ j, w.frozen? ⟨xb, j, none⟩ = false
  row : w.ownsRow w1.heap.size 65 5 vi n (insL m pc n)
  pgs : w.ownsRow W.heap.size 3 1 vp k (pgV (pc / 256) k)
  be : Below w1.heap.size w1 w
  sz : W.heap.size ≤ w.heap.size
  xl : xb < W.heap.size
  vl : ∀ k, vi.ownBlock = some k → k < W.heap.size
def PgAt (w1 W w : World) (xb : Nat) (pc : Int) (n : Nat) (m : Nat → Int) (vi : Value) (k : Nat) : Prop := ∃ vp, PgRow w1 W w xb pc n m vi k vp
theorem PgRow.put {w1 W w : World} {xb : Nat} {pc : Int} {n : Nat} {m : Nat → Int} {vi vp : Value} {k : Nat} (P : PgRow w1 W w xb pc n m vi k vp) (hw1 : w1.heap.size ≤ W.heap.size) (hxw : w1.heap.size ≤ xb) (hvx : ∀ i, vi.ownBlock = some i → i ≠ xb) {o : Obj} {w2 : World} {v' : Value} (ho : w2.ownsRow W.heap.size 3 1 v' (k + 1) (pgV (pc / 256) k ++ [.int .i64 (pc / 256 + k)])) (hg : (w.alloc o).grownBy w2 vp.ownBlock) (hm : Moved (w.alloc o) vp v') :
    (w2.cell? ⟨xb, 2, none⟩ = some vp ∧ w2.frozen? ⟨xb, 2, none⟩ = false) ∧ PgRow w1 W (w2.setCell ⟨xb, 2, none⟩ v') xb pc n m vi (k + 1) v' := by
  have hz : w.heap.size < w2.heap.size := by have := hg.size; simp at this; omega
  have hk : ∀ i, i < W.heap.size → w2.heap[i]? = w.heap[i]? := fun i hi => (hg.block i (by have := P.sz; simp; omega) (fun e => by have := (owns_lt P.pgs i e.symm).1; omega)).trans (Below.heap_alloc w o i (by have := P.sz; omega))
  have hs := hk xb P.xl
  have c : ∀ (j : Nat) (v : Value), w.cell? ⟨xb, j, none⟩ = some v → w2.cell? ⟨xb, j, none⟩ = some v := fun j v e => (World.cell?_of_block (a := ⟨xb, j, none⟩) hs).trans e
  have f : ∀ j, w2.frozen? ⟨xb, j, none⟩ = false := fun j => (World.frozen?_of_block (a := ⟨xb, j, none⟩) hs).trans (P.fz j)
  have oth : ∀ (j : Nat) (v : Value), j ≠ 2 → w.cell? ⟨xb, j, none⟩ = some v → (w2.setCell ⟨xb, 2, none⟩ v').cell? ⟨xb, j, none⟩ = some v := fun j v hj e => by
    rw [World.cell?_setCell_other _ _ _ _ (by intro e; injection e with e1 e2; exact hj e2.symm)]; exact c j v e
  have blk : ∀ i, i ≠ xb → (w2.setCell ⟨xb, 2, none⟩ v').heap[i]? = w2.heap[i]? := fun i h => Below.heap_setCell w2 ⟨xb, 2, none⟩ v' i h
  refine ⟨⟨c _ _ P.c2, f 2⟩, ⟨oth 0 _ (by omega) P.c0, oth 1 _ (by omega) P.c1, World.cell?_setCell_same _ _ _ (c _ _ P.c2), fun j => by rw [World.frozen?_setCell]; exact f j, ?_, ?_, ?_, ?_, P.xl, P.vl⟩⟩
  · exact owns_blocks P.row fun i e => (blk i (hvx i e)).trans (hk i (P.vl i e))
  · rw [pgV_succ]
    exact owns_blocks ho fun i e => blk i (by have := (owns_lt ho i e).1; have := P.xl; omega)
  · have hb : Below w1.heap.size w1 w2 := ⟨hg.os.trans P.be.os, hg.tape.trans P.be.tape, hg.output.trans P.be.output, Nat.le_trans P.be.size (by omega), fun i hi => (hk i (by omega)).trans (P.be.block i hi)⟩
    exact hb.setCell hxw _
  · have := P.sz; simp; omega
/-- what the document looks at while it forms a region -/
structure Gf (w0 : World) (db gb kb : Nat) (m : Nat → Int) (pc : Int) (most : Nat) : Prop where
  D : DRam w0 db gb kb m
  p0 : 0 ≤ pc
  p1 : pc < 16384
  p4 : pc % 4 = 0
  mo : most ≤ 24
/-- what holds from round to round -/
structure FoR (w1 wr : World) (xb : Nat) (pc : Int) (most : Nat) (m : Nat → Int) (n st : Nat) : Prop where
  h : ∃ vi, XAt w1 wr xb pc n m vi
  S : Sofar (kdAt m pc) (many pc) most n st
  l : lenP (kdAt m pc) (many pc) most (most - n) n st = lenR (kdAt m pc) (many pc) most
/-- which word a kind's is -/
theorem kw_tests (kd : Nat) (h : kd = 1 ∨ kd = 2 ∨ kd = 3 ∨ kd = 4 ∨ kd = 5) : ((⟨(Tab.kwL.getD kd []).toArray⟩ : ByteArray).toList == [116, 114, 97, 112]) = decide (kd = 3) ∧ ((⟨(Tab.kwL.getD kd []).toArray⟩ : ByteArray).toList == [115, 116, 111, 114, 101]) = decide (kd = 5) ∧ ((⟨(Tab.kwL.getD kd []).toArray⟩ : ByteArray).toList == [98, 114, 97, 110, 99, 104]) = decide (kd = 2) := by
  rcases h with rfl | rfl | rfl | rfl | rfl
  · rw [show Tab.kwL.getD 1 [] = [115, 117, 109] from rfl]; simp [go_sem]
  · rw [show Tab.kwL.getD 2 [] = [98, 114, 97, 110, 99, 104] from rfl]; simp [go_sem]
  · rw [show Tab.kwL.getD 3 [] = [116, 114, 97, 112] from rfl]; simp [go_sem]
  · rw [show Tab.kwL.getD 4 [] = [108, 111, 97, 100] from rfl]; simp [go_sem]
  · rw [show Tab.kwL.getD 5 [] = [115, 116, 111, 114, 101] from rfl]; simp [go_sem]
theorem lk_false {kd : Nat → Nat} {M most n st : Nat} (h : ¬ (n < most ∧ n < M ∧ kd n ≠ 3 ∧ (kd n ≠ 5 ∨ st < 8))) : lkP kd M most n st = false := by
  cases e : lkP kd M most n st with
  | false => rfl
  | true => exact absurd (lkP_iff.1 e) h
section
variable {w : World} {m : Nat → Int} {db gb kb : Nat}
set_option maxRecDepth 100000 in
set_option maxHeartbeats 16000000 in
theorem formOf_any (D : DRam w db gb kb m) (pc : Int) (h0 : 0 ≤ pc) (h1 : pc < 16384) (h4 : pc % 4 = 0) (most : Nat) (m0 : 1 ≤ most) (m1 : most ≤ 24) :
    Calls Tryd.prog 25 #[.pointer (some ⟨db, 0, none⟩), .int .u32 pc, .int .i64 most] w fun e w' => Below w.heap.size w w' ∧
      ((lenR (kdAt m pc) (many pc) most = 0 ∧ e = .returned (.tuple #[reg0, .int .i64 6])) ∨
       (1 ≤ lenR (kdAt m pc) (many pc) most ∧ ∃ v vi vp, e = .returned (.tuple #[v, .int .i64 0]) ∧ RegAt w.heap.size w' v pc m (lenR (kdAt m pc) (many pc) most) vi vp)) := by
  have hb : Below w.heap.size w (w.alloc (.cells #[.int .u32 0, .slice none 0 0, .slice none 0 0] 56)) := (Below.refl _ _).alloc (Nat.le_refl _) _
  have G : Hid (Gf (w.alloc (.cells #[.int .u32 0, .slice none 0 0, .slice none 0 0] 56)) db gb kb m pc most) := (⟨D.stays hb, h0, h1, h4, m1⟩ : Gf _ db gb kb m pc most)
  have Z : Hid (RZ36 (w.alloc (.cells #[.int .u32 0, .slice none 0 0, .slice none 0 0] 56)) w.heap.size) := (⟨by simp, by simp, by simp, fun j => by simp⟩ : RZ36 _ _)
  have hrb : w.heap.size < (w.alloc (.cells #[.int .u32 0, .slice none 0 0, .slice none 0 0] 56)).heap.size := by simp
  have hB : Hid (Below w.heap.size w (w.alloc (.cells #[.int .u32 0, .slice none 0 0, .slice none 0 0] 56))) := hb
  have d1 : decide ((most : Int) < 1) = false := by simp; omega
  have d2 : decide (24 < (most : Int)) = false := by simp; omega
  have d3 : (pc % 4 != 0) = false := by simp [h4]
  have d4 : decide (16384 ≤ pc) = false := by simp; omega
  clear D hb h4
  go_enter Tryd.func25, Tryd.ntmps25
  obtain ⟨inf0, hi, hz0, hz1, hz2⟩ := info_parts info45
  have hS1 : (w.alloc (.cells #[.int .u32 0, .slice none 0 0, .slice none 0 0] 56)).heap.size = w.heap.size + 1 := by simp
  go_upto_block 0 with fail
  generalize w.alloc (.cells #[.int .u32 0, .slice none 0 0, .slice none 0 0] 56) = w1 at *
  have F0 : Hid (XAt w1 (w1.alloc (.cells #[.int .u32 pc, .slice none 0 0, .slice none 0 0] 56)) w1.heap.size pc 0 m (.slice none 0 0)) := XAt.start (w1 := w1) (pc := pc) m
  have hrb1 : Hid (w.heap.size < w1.heap.size) := hrb
  generalize w1.alloc (.cells #[.int .u32 pc, .slice none 0 0, .slice none 0 0] 56) = w2 at *
  rw [hS1] at F0
  have hxb : w.heap.size < w.heap.size + 1 := by omega
  clear hrb
  generalize w.heap.size + 1 = xb at F0 hxb hS1 ⊢
  go_cut [9, 10, 11, 12, 13, 14, 15] from 36 to 131 (fun _ av _ _ _ _ _ wx => av = .int .i64 (pc + 4 * (lenR (kdAt m pc) (many pc) most : Nat)) ∧ ∃ vi, XAt w1 wx xb pc (lenR (kdAt m pc) (many pc) most) m vi)
  case first =>
    rename_i hJrel hMet
    have hJH : Hid _ := hJrel
    clear hJrel
    go_wp2_with fail
    go_loopw [9, 10, 11, 12, 13, 14, 15] (fun sv av _ _ _ _ _ wr => ∃ n st : Nat, sv = .int .i64 st ∧ av = .int .i64 (pc + 4 * n) ∧ FoR w1 wr xb pc most m n st) (fun _ av _ _ _ _ _ _ => 30 - ((intOf av - pc) / 4).toNat)
    case atStart => exact ⟨0, 0, rfl, by simp, ⟨_, F0.out⟩, Sofar.start _ _ _, rfl⟩
    case round =>
      clear F0 Z hB
      obtain ⟨n, st, rfl, rfl, ⟨vi, F⟩, S, hL⟩ := hrel
      have hn := S.room
      have hnm := S.mem
      have hst := S.stores
      have hn24 : (n : Int) ≤ 24 := by omega
      have hml : Hid (n + 1 ≤ maxLen) := by show n + 1 ≤ maxLen; unfold maxLen; omega
      have hby : Hid ((n + 1) * 40 ≤ 140737488355328) := by show _ * _ ≤ _; omega
      have hml2 : Hid (n + 1 + 1 ≤ maxLen) := by show n + 1 + 1 ≤ maxLen; unfold maxLen; omega
      have hby2 : Hid ((n + 1 + 1) * 40 ≤ 140737488355328) := by show _ * _ ≤ _; omega
      have hst8 : (st : Int) ≤ 8 := by omega
      have hmo : (most : Int) ≤ 24 := by omega
      have c1 := F.c1
      have SH : Hid (Sofar (kdAt m pc) (many pc) most n st) := S
      have hLH : Hid (lenP (kdAt m pc) (many pc) most (most - n) n st = lenR (kdAt m pc) (many pc) most) := hL
      have FH : Hid (XAt w1 wr xb pc n m vi) := F
      have hstop : Hid (∀ W, XAt w1 W xb pc n m vi → lenP (kdAt m pc) (many pc) most (most - n) n st = n → pc + 4 * (n : Int) = pc + 4 * (lenR (kdAt m pc) (many pc) most : Nat) ∧ ∃ vi, XAt w1 W xb pc (lenR (kdAt m pc) (many pc) most) m vi) := fun W FW e => by
        have e2 := hLH.out
        rw [e] at e2
        rw [← e2]; exact ⟨rfl, vi, FW⟩
      obtain ⟨p, c, rfl⟩ := F.len
      clear F S hL
      by_cases ha : n < most
      · have ha' : (n : Int) < most := by omega
        by_cases hb : n < many pc
        · have hb' : pc + 4 * (n : Int) < 16384 := by unfold many at hb; omega
          have hq : (pc / 4).toNat + n < 4096 := by unfold many at hb; omega
          have DR := G.out.D.stays (FH.out.be)
          have hd0 := DR.c0
          have hdc := DR.cell ((pc / 4).toNat + n) hq
          have hidx : (pc + 4 * (n : Int)) / 4 = (((pc / 4).toNat + n : Nat) : Int) := by omega
          have hv := DR.mb ((pc / 4).toNat + n)
          change wr.cell? _ = some (.int .u32 (wAt m pc n)) at hdc
          change 0 ≤ wAt m pc n ∧ wAt m pc n < 4294967296 at hv
          have hde := fun W => decodeOf_v (wAt m pc n) hv.1 hv.2 W
          have hki := fun W => kindOf_nat (decK (wAt m pc n)) (decK_lt _) W
          have hkt := kw_tests (knd (wAt m pc n)) (knd_in _)
          have hkn := knd_in (wAt m pc n)
          change ∀ W, Calls Tryd.prog 29 #[.int .i64 (decK (wAt m pc n))] W fun e w' => e = .returned (.string ⟨(Tab.kwL.getD (knd (wAt m pc n)) []).toArray⟩) ∧ Below W.heap.size W w' at hki
          have hXX : Hid (insC (wAt m pc n) = [.int .i64 (decK (wAt m pc n)), .int .i64 (Tab.xs (Tab.sh (decK (wAt m pc n))) (wAt m pc n)), .int .i64 (Tab.xt (Tab.sh (decK (wAt m pc n))) (wAt m pc n)), .int .i64 (Tab.xd (Tab.sh (decK (wAt m pc n))) (wAt m pc n)), .int .u32 (Tab.xm (Tab.sh (decK (wAt m pc n))) (wAt m pc n))]) := rfl
          have hKd : Hid (kdAt m pc n = knd (wAt m pc n)) := rfl
          have hq' : (((pc / 4).toNat + n : Nat) : Int) < 4096 := by omega
          unfold insV at hde
          generalize Tab.xs (Tab.sh (decK (wAt m pc n))) (wAt m pc n) = i1 at *
          generalize Tab.xt (Tab.sh (decK (wAt m pc n))) (wAt m pc n) = i2 at *
          generalize Tab.xd (Tab.sh (decK (wAt m pc n))) (wAt m pc n) = i3 at *
          generalize Tab.xm (Tab.sh (decK (wAt m pc n))) (wAt m pc n) = i4 at *
          generalize decK (wAt m pc n) = i0 at *
          generalize knd (wAt m pc n) = kd at *
          generalize (⟨(Tab.kwL.getD kd []).toArray⟩ : ByteArray) = ss at *
          generalize (pc / 4).toNat + n = q at *
          clear DR
          go_wp2_with fail
          refine (hde _).mono ?_
          rintro e w3 ⟨rfl, hb3⟩
          clear hde
          have hA3 : Below w3.heap.size w3 (w3.alloc (.cells #[.int .i64 i0, .int .i64 i1, .int .i64 i2, .int .i64 i3, .int .u32 i4] 65)) := (Below.refl _ _).alloc (Nat.le_refl _) _
          have F3 : Hid _ := (FH.out.stays hb3).stays hA3
          have g0 : (w3.alloc (.cells #[.int .i64 i0, .int .i64 i1, .int .i64 i2, .int .i64 i3, .int .u32 i4] 65)).cell? ⟨w3.heap.size, 0, none⟩ = some (.int .i64 i0) := by simp
          have g1 : (w3.alloc (.cells #[.int .i64 i0, .int .i64 i1, .int .i64 i2, .int .i64 i3, .int .u32 i4] 65)).cell? ⟨w3.heap.size, 1, none⟩ = some (.int .i64 i1) := by simp
          have g2 : (w3.alloc (.cells #[.int .i64 i0, .int .i64 i1, .int .i64 i2, .int .i64 i3, .int .u32 i4] 65)).cell? ⟨w3.heap.size, 2, none⟩ = some (.int .i64 i2) := by simp
          have g3 : (w3.alloc (.cells #[.int .i64 i0, .int .i64 i1, .int .i64 i2, .int .i64 i3, .int .u32 i4] 65)).cell? ⟨w3.heap.size, 3, none⟩ = some (.int .i64 i3) := by simp
          have g4 : (w3.alloc (.cells #[.int .i64 i0, .int .i64 i1, .int .i64 i2, .int .i64 i3, .int .u32 i4] 65)).cell? ⟨w3.heap.size, 4, none⟩ = some (.int .u32 i4) := by simp
          clear hA3 hb3 hd0 hdc c1
          go_wp2_with fail
          generalize w3.alloc (.cells #[.int .i64 i0, .int .i64 i1, .int .i64 i2, .int .i64 i3, .int .u32 i4] 65) = w3a at *
          generalize w3.heap.size = ib at *
          refine (hki _).mono ?_
          rintro e w4 ⟨rfl, hb4⟩
          clear hki
          have F4 : Hid (XAt w1 w4 xb pc n m (.slice p n c)) := F3.out.stays hb4
          have y0 := K.cell_stays hb4 (Nat.le_refl _) g0
          have y1 := K.cell_stays hb4 (Nat.le_refl _) g1
          have y2 := K.cell_stays hb4 (Nat.le_refl _) g2
          have y3 := K.cell_stays hb4 (Nat.le_refl _) g3
          have y4 := K.cell_stays hb4 (Nat.le_refl _) g4
          have hib : ib < w4.heap.size := World.block_lt_of_cell? _ _ y0
          clear hb4 g0 g1 g2 g3 g4 F3 FH
          obtain ⟨hT, hS, hBr⟩ := hkt
          by_cases k3 : kd = 3
          · have hT' : (ss.toList == [116, 114, 97, 112]) = true := by rw [hT]; simpa using k3
            have hfin : Hid _ := hstop.out _ F4.out (lenP_stop (lk_false (by have := hKd.out; omega)) _)
            clear hT
            go_wp2
            (have hJrel := hJH.out; go_meet)
            exact ⟨by rw [← hfin.out.1], hfin.out.2⟩
          have hT' : (ss.toList == [116, 114, 97, 112]) = false := by rw [hT]; simpa using k3
          by_cases k5 : kd = 5 ∧ st = 8
          · have hS' : (ss.toList == [115, 116, 111, 114, 101]) = true := by rw [hS]; simpa using k5.1
            have h8 : ((st : Int) == 8) = true := by simp; omega
            have k5H : Hid (kd = 5 ∧ st = 8) := k5
            clear k5
            have hfin : Hid _ := hstop.out _ F4.out (lenP_stop (lk_false (by have := hKd.out; have := k5H.out; omega)) _)
            clear hT hS
            go_wp2
            (have hJrel := hJH.out; go_meet)
            exact ⟨by rw [← hfin.out.1], hfin.out.2⟩
          have hlk : lkP (kdAt m pc) (many pc) most n st = true := lkP_iff.2 ⟨ha, hb, by have := hKd.out; omega, by have := hKd.out; omega⟩
          have hA4 : Below w4.heap.size w4 (w4.alloc (.cells #[.int .i64 0, .int .i64 0, .int .i64 0, .int .i64 0, .int .u32 0] 65)) := (Below.refl _ _).alloc (Nat.le_refl _) _
          have F5 : Hid (XAt w1 _ xb pc n m (.slice p n c)) := F4.out.stays hA4
          have Z5 : Hid (K.ZAt w4.heap.size _) := K.ZAt.alloc w4
          have x0 := K.cell_stays hA4 (Nat.le_refl _) y0
          have x1 := K.cell_stays hA4 (Nat.le_refl _) y1
          have x2 := K.cell_stays hA4 (Nat.le_refl _) y2
          have x3 := K.cell_stays hA4 (Nat.le_refl _) y3
          have x4 := K.cell_stays hA4 (Nat.le_refl _) y4
          have hxl : xb < w4.heap.size := F4.out.lt
          have hvl : ∀ k, (Value.slice p n c).ownBlock = some k → k < w4.heap.size := fun k e => (owns_lt F4.out.row k e).2
          have hjb : w4.heap.size < (w4.alloc (.cells #[.int .i64 0, .int .i64 0, .int .i64 0, .int .i64 0, .int .u32 0] 65)).heap.size := by simp
          have h58 : kd = 5 → ((st : Int) == 8) = false := fun e => by simp; omega
          clear hA4 y0 y1 y2 y3 y4 F4
          by_cases k2 : kd = 2
          · have hBr' : (ss.toList == [98, 114, 97, 110, 99, 104]) = true := by rw [hBr]; simpa using k2
            have hS' : (ss.toList == [115, 116, 111, 114, 101]) = false := by rw [hS]; simp; omega
            have hnoS : Hid (∀ W, XAt w1 W xb pc n m (.slice p n c) → lkP (kdAt m pc) (many pc) most (n + 1) st = false ∨ kdAt m pc (n + 1) = 2 → pc + 4 * (n : Int) = pc + 4 * (lenR (kdAt m pc) (many pc) most : Nat) ∧ ∃ vi, XAt w1 W xb pc (lenR (kdAt m pc) (many pc) most) m vi) := fun W FW e => hstop.out W FW (lenP_no hlk (by have := hKd.out; omega) (by rcases e with e | e <;> simp [e]))
            clear hT hS hBr h58
            go_upto_region 17 with fail
            generalize w4.alloc (.cells #[.int .i64 0, .int .i64 0, .int .i64 0, .int .i64 0, .int .u32 0] 65) = w5 at *
            generalize w4.heap.size = jb at *
            have c1 := F5.out.c1
            by_cases hr : n + 1 < most
            · have hr' : decide ((most : Int) < (n : Int) + 2) = false := by simp; omega
              by_cases hr2 : n + 1 < many pc
              · have hr2' : decide (16384 ≤ pc + 4 * (n : Int) + 4) = false := by unfold many at hr2; simp; omega
                have hq2 : (pc / 4).toNat + (n + 1) < 4096 := by unfold many at hr2; omega
                have DR := G.out.D.stays (F5.out.be)
                have hd0 := DR.c0
                have hdc := DR.cell ((pc / 4).toNat + (n + 1)) hq2
                have hidx2 : (pc + 4 * (n : Int)) / 4 + 1 = (((pc / 4).toNat + (n + 1) : Nat) : Int) := by omega
                have hv2 := DR.mb ((pc / 4).toNat + (n + 1))
                change w5.cell? _ = some (.int .u32 (wAt m pc (n + 1))) at hdc
                change 0 ≤ wAt m pc (n + 1) ∧ wAt m pc (n + 1) < 4294967296 at hv2
                have hde := fun W => decodeOf_v (wAt m pc (n + 1)) hv2.1 hv2.2 W
                have hki := fun W => kindOf_nat (decK (wAt m pc (n + 1))) (decK_lt _) W
                have hkt := kw_tests (knd (wAt m pc (n + 1))) (knd_in _)
                have hkn2 := knd_in (wAt m pc (n + 1))
                change ∀ W, Calls Tryd.prog 29 #[.int .i64 (decK (wAt m pc (n + 1)))] W fun e w' => e = .returned (.string ⟨(Tab.kwL.getD (knd (wAt m pc (n + 1))) []).toArray⟩) ∧ Below W.heap.size W w' at hki
                have hXX2 : Hid (insC (wAt m pc (n + 1)) = [.int .i64 (decK (wAt m pc (n + 1))), .int .i64 (Tab.xs (Tab.sh (decK (wAt m pc (n + 1)))) (wAt m pc (n + 1))), .int .i64 (Tab.xt (Tab.sh (decK (wAt m pc (n + 1)))) (wAt m pc (n + 1))), .int .i64 (Tab.xd (Tab.sh (decK (wAt m pc (n + 1)))) (wAt m pc (n + 1))), .int .u32 (Tab.xm (Tab.sh (decK (wAt m pc (n + 1)))) (wAt m pc (n + 1)))]) := rfl
                have hKd2 : Hid (kdAt m pc (n + 1) = knd (wAt m pc (n + 1))) := rfl
                have hq2' : (((pc / 4).toNat + (n + 1) : Nat) : Int) < 4096 := by omega
                unfold insV at hde
                generalize Tab.xs (Tab.sh (decK (wAt m pc (n + 1)))) (wAt m pc (n + 1)) = j1 at *
                generalize Tab.xt (Tab.sh (decK (wAt m pc (n + 1)))) (wAt m pc (n + 1)) = j2 at *
                generalize Tab.xd (Tab.sh (decK (wAt m pc (n + 1)))) (wAt m pc (n + 1)) = j3 at *
                generalize Tab.xm (Tab.sh (decK (wAt m pc (n + 1)))) (wAt m pc (n + 1)) = j4 at *
                generalize decK (wAt m pc (n + 1)) = j0 at *
                generalize knd (wAt m pc (n + 1)) = kd2 at *
                generalize (⟨(Tab.kwL.getD kd2 []).toArray⟩ : ByteArray) = ss2 at *
                generalize (pc / 4).toNat + (n + 1) = q2 at *
                clear DR
                rw [hidx] at hidx2
                go_wp2_with fail
                refine (hde _).mono ?_
                rintro e w6 ⟨rfl, hb6⟩
                clear hde hd0 hdc
                have F6 : Hid (XAt w1 w6 xb pc n m (.slice p n c)) := F5.out.stays hb6
                have Z6 : Hid (K.ZAt jb w6) := Z5.out.stays hb6 hjb
                have v0 := K.cell_stays hb6 (Nat.le_refl _) x0
                have v1 := K.cell_stays hb6 (Nat.le_refl _) x1
                have v2 := K.cell_stays hb6 (Nat.le_refl _) x2
                have v3 := K.cell_stays hb6 (Nat.le_refl _) x3
                have v4 := K.cell_stays hb6 (Nat.le_refl _) x4
                obtain ⟨z0, z1, z2, z3, z4, zf⟩ := Z6.out
                have zf0 := zf 0
                have zf1 := zf 1
                have zf2 := zf 2
                have zf3 := zf 3
                have zf4 := zf 4
                have hbp : Below jb w6 (put5 w6 jb j0 j1 j2 j3 j4) := below_put5 (Below.refl _ _) (Nat.le_refl _)
                have F6p : Hid (XAt w1 (put5 w6 jb j0 j1 j2 j3 j4) xb pc n m (.slice p n c)) := F6.out.other (Nat.le_trans F6.out.lf (Nat.le_of_lt hxl)) hbp hxl hvl
                have hnej : ib ≠ jb := by omega
                have i0p : (put5 w6 jb j0 j1 j2 j3 j4).cell? ⟨ib, 0, none⟩ = _ := (put5_other hnej).trans v0
                have i1p : (put5 w6 jb j0 j1 j2 j3 j4).cell? ⟨ib, 1, none⟩ = _ := (put5_other hnej).trans v1
                have i2p : (put5 w6 jb j0 j1 j2 j3 j4).cell? ⟨ib, 2, none⟩ = _ := (put5_other hnej).trans v2
                have i3p : (put5 w6 jb j0 j1 j2 j3 j4).cell? ⟨ib, 3, none⟩ = _ := (put5_other hnej).trans v3
                have i4p : (put5 w6 jb j0 j1 j2 j3 j4).cell? ⟨ib, 4, none⟩ = _ := (put5_other hnej).trans v4
                obtain ⟨t0, t1, t2, t3, t4⟩ := put5_cells (o := j0) (s := j1) (t := j2) (d := j3) (x := j4) Z6.out
                clear hb6 x0 x1 x2 x3 x4 v0 v1 v2 v3 v4 c1 F5 F6 hbp
                have hpd : Hid (put5 w6 jb j0 j1 j2 j3 j4 = ((((w6.setCell ⟨jb, 0, none⟩ (.int .i64 j0)).setCell ⟨jb, 1, none⟩ (.int .i64 j1)).setCell ⟨jb, 2, none⟩ (.int .i64 j2)).setCell ⟨jb, 3, none⟩ (.int .i64 j3)).setCell ⟨jb, 4, none⟩ (.int .u32 j4)) := rfl
                go_upto_region 19 with fail
                rw [← hpd.out]
                generalize put5 w6 jb j0 j1 j2 j3 j4 = w7p at *
                clear hpd z0 z1 z2 z3 z4 zf zf0 zf1 zf2 zf3 zf4 Z6 Z5
                go_wp2_with fail
                refine (hki _).mono ?_
                rintro e w8 ⟨rfl, hb8⟩
                clear hki
                have F8 : Hid (XAt w1 w8 xb pc n m (.slice p n c)) := F6p.out.stays hb8
                have x0 := K.cell_stays hb8 (Nat.le_refl _) i0p
                have x1 := K.cell_stays hb8 (Nat.le_refl _) i1p
                have x2 := K.cell_stays hb8 (Nat.le_refl _) i2p
                have x3 := K.cell_stays hb8 (Nat.le_refl _) i3p
                have x4 := K.cell_stays hb8 (Nat.le_refl _) i4p
                have e0 := K.cell_stays hb8 (Nat.le_refl _) t0
                have e1 := K.cell_stays hb8 (Nat.le_refl _) t1
                have e2 := K.cell_stays hb8 (Nat.le_refl _) t2
                have e3 := K.cell_stays hb8 (Nat.le_refl _) t3
                have e4 := K.cell_stays hb8 (Nat.le_refl _) t4
                have hjb8 : jb < w8.heap.size := World.block_lt_of_cell? _ _ e0
                clear hb8 i0p i1p i2p i3p i4p t0 t1 t2 t3 t4 F6p
                obtain ⟨hT, hS, hBr⟩ := hkt
                by_cases l3 : kd2 = 3 ∨ kd2 = 2 ∨ (kd2 = 5 ∧ st = 8)
                · have hfin : Hid _ := hnoS.out _ F8.out (by have := hKd2.out; by_cases e : kd2 = 2; exact Or.inr (by omega); exact Or.inl (lk_false (by omega)))
                  clear x0 x1 x2 x3 x4 e0 e1 e2 e3 e4
                  by_cases m3 : kd2 = 3
                  · have hT2 : (ss2.toList == [116, 114, 97, 112]) = true := by rw [hT]; simpa using m3
                    clear hT hS hBr l3 m3
                    go_wp2
                    (have hJrel := hJH.out; go_meet)
                    exact ⟨by rw [← hfin.out.1], hfin.out.2⟩
                  have hT2 : (ss2.toList == [116, 114, 97, 112]) = false := by rw [hT]; simpa using m3
                  by_cases m2 : kd2 = 2
                  · have hB2 : (ss2.toList == [98, 114, 97, 110, 99, 104]) = true := by rw [hBr]; simpa using m2
                    clear hT hS hBr l3 m3 m2
                    go_wp2
                    (have hJrel := hJH.out; go_meet)
                    exact ⟨by rw [← hfin.out.1], hfin.out.2⟩
                  have hB2 : (ss2.toList == [98, 114, 97, 110, 99, 104]) = false := by rw [hBr]; simpa using m2
                  have hS2 : (ss2.toList == [115, 116, 111, 114, 101]) = true := by rw [hS]; simp; omega
                  have h82 : ((st : Int) == 8) = true := by simp; omega
                  clear hT hS hBr l3 m3 m2
                  go_wp2
                  (have hJrel := hJH.out; go_meet)
                  exact ⟨by rw [← hfin.out.1], hfin.out.2⟩
                · have hT2 : (ss2.toList == [116, 114, 97, 112]) = false := by rw [hT]; simp; omega
                  have hB2 : (ss2.toList == [98, 114, 97, 110, 99, 104]) = false := by rw [hBr]; simp; omega
                  have hlk2 : lkP (kdAt m pc) (many pc) most (n + 1) st = true := lkP_iff.2 ⟨hr, hr2, by have := hKd2.out; omega, by have := hKd2.out; omega⟩
                  have hend : Hid (∀ W v', XAt w1 W xb pc (n + 1 + 1) m v' → pc + 4 * ((n + 1 + 1 : Nat) : Int) = pc + 4 * (lenR (kdAt m pc) (many pc) most : Nat) ∧ ∃ vi, XAt w1 W xb pc (lenR (kdAt m pc) (many pc) most) m vi) := fun W v' h => by
                    have e := lenP_two hlk (by have := hKd.out; omega) ⟨hlk2, by have := hKd2.out; omega⟩
                    have e2 := hLH.out
                    rw [e] at e2
                    rw [← e2]; exact ⟨rfl, v', h⟩
                  by_cases l5 : kd2 = 5
                  · have hS2 : (ss2.toList == [115, 116, 111, 114, 101]) = true := by rw [hS]; simpa using l5
                    have h82 : ((st : Int) == 8) = false := by simp; omega
                    have c1 := F8.out.c1
                    have hn_ : Hid (∀ j u, ([.int .i64 i0, .int .i64 i1, .int .i64 i2, .int .i64 i3, .int .u32 i4] : List Value)[j]? = some u → (w8.alloc (.cells ([.int .i64 i0, .int .i64 i1, .int .i64 i2, .int .i64 i3, .int .u32 i4] : List Value).toArray 65)).cell? ((⟨w8.heap.size, 0, none⟩ : Addr).add j) = some u) := fun j u h => by
                      have h2 := insC_cells w8 (wAt m pc (n)) 65 j u (by rw [hXX.out]; exact h)
                      rw [hXX.out] at h2; exact h2
                    have ho_ : Hid (∀ u ∈ ([.int .i64 i0, .int .i64 i1, .int .i64 i2, .int .i64 i3, .int .u32 i4] : List Value), u.oneCell' = true) := by show ∀ u ∈ ([.int .i64 i0, .int .i64 i1, .int .i64 i2, .int .i64 i3, .int .u32 i4] : List Value), u.oneCell' = true; rw [← hXX.out]; exact insC_one _
                    have hA_ : Hid (Below w8.heap.size w8 (w8.alloc (.cells ([.int .i64 i0, .int .i64 i1, .int .i64 i2, .int .i64 i3, .int .u32 i4] : List Value).toArray 65))) := (Below.refl _ _).alloc (Nat.le_refl _) _
                    have FA_ : Hid (XAt w1 (w8.alloc (.cells ([.int .i64 i0, .int .i64 i1, .int .i64 i2, .int .i64 i3, .int .u32 i4] : List Value).toArray 65)) xb pc (n) m (.slice p (n) c)) := F8.out.stays hA_.out
                    have hbs_ : Hid (w1.heap.size ≤ (w8.alloc (.cells ([.int .i64 i0, .int .i64 i1, .int .i64 i2, .int .i64 i3, .int .u32 i4] : List Value).toArray 65)).heap.size) := FA_.out.be.size
                    have hkj : Hid (jb ≠ xb ∧ (Value.slice p n c).ownBlock ≠ some jb) := ⟨by omega, fun e => by have := hvl jb e; omega⟩
                    have hjA : (w8.alloc (.cells ([.int .i64 i0, .int .i64 i1, .int .i64 i2, .int .i64 i3, .int .u32 i4] : List Value).toArray 65)).heap[jb]? = w8.heap[jb]? := Below.heap_alloc w8 _ jb hjb8
                    have hjl : jb < (w8.alloc (.cells ([.int .i64 i0, .int .i64 i1, .int .i64 i2, .int .i64 i3, .int .u32 i4] : List Value).toArray 65)).heap.size := by have := hA_.out.size; omega
                    have hJJ : Hid ((w8.alloc (.cells ([.int .i64 i0, .int .i64 i1, .int .i64 i2, .int .i64 i3, .int .u32 i4] : List Value).toArray 65)).heap[jb]? = w8.heap[jb]? ∧ jb < (w8.alloc (.cells ([.int .i64 i0, .int .i64 i1, .int .i64 i2, .int .i64 i3, .int .u32 i4] : List Value).toArray 65)).heap.size) := ⟨hjA, hjl⟩
                    have hEE : Hid (w8.cell? ⟨jb, 0, none⟩ = some (.int .i64 j0) ∧ w8.cell? ⟨jb, 1, none⟩ = some (.int .i64 j1) ∧ w8.cell? ⟨jb, 2, none⟩ = some (.int .i64 j2) ∧ w8.cell? ⟨jb, 3, none⟩ = some (.int .i64 j3) ∧ w8.cell? ⟨jb, 4, none⟩ = some (.int .u32 j4)) := ⟨e0, e1, e2, e3, e4⟩
                    clear hT hS hBr l3 l5 hjA hjl e0 e1 e2 e3 e4 hstop hnoS
                    go_upto_region 26 with (have used_ := FA_; clear used_; refine wpList_append_moved rfl _ _ 48 rfl w1.heap.size 65 inf0 _ 5 40 Tryd.underlying48 hi hz0 hz1 hz2 rfl (by decide) (.slice p (n) c) (n) (insL m pc (n)) rfl ?_ ⟨w8.heap.size, 0, none⟩ 1 1 [.int .i64 i0, .int .i64 i1, .int .i64 i2, .int .i64 i3, .int .u32 i4] rfl rfl ?_ ?_ ?_ ?_ ?_ ?_; exact FA_.out.row; exact hn_.out; exact ho_.out; exact hml.out; exact hby.out; exact hbs_.out; intro v' w9 how hg hmv; rw [← hXX.out] at how; obtain ⟨g7, c7, rfl⟩ := owns_pos how; have HK7 : Hid _ := FA_.out.put how hg hmv; have hx1 := HK7.out.1.1; have hf1 := HK7.out.1.2; have F9 : Hid (XAt w1 (w9.setCell ⟨xb, 1, none⟩ (.slice (some ⟨g7, 0, none⟩) (n + 1) c7)) xb pc (n + 1) m (.slice (some ⟨g7, 0, none⟩) (n + 1) c7)) := HK7.out.2.1; have hk9 : Hid ((w9.setCell ⟨xb, 1, none⟩ (.slice (some ⟨g7, 0, none⟩) (n + 1) c7)).heap[jb]? = w8.heap[jb]?) := (HK7.out.2.2 jb hJJ.out.2 hkj.out.1 hkj.out.2).trans hJJ.out.1; clear HK7 how hg hmv hn_ ho_ FA_ hA_ hbs_ x0 x1 x2 x3 x4 c1 hJJ)
                    (try clear hx1); (try clear hf1)
                    generalize w9.setCell ⟨xb, 1, none⟩ (.slice (some ⟨g7, 0, none⟩) (n + 1) c7) = w10 at *
                    have gc : ∀ (j : Nat) (v : Value), w8.cell? ⟨jb, j, none⟩ = some v → w10.cell? ⟨jb, j, none⟩ = some v := fun j v e => (World.cell?_of_block (a := ⟨jb, j, none⟩) hk9.out).trans e
                    have x0 := gc _ _ hEE.out.1
                    have x1 := gc _ _ hEE.out.2.1
                    have x2 := gc _ _ hEE.out.2.2.1
                    have x3 := gc _ _ hEE.out.2.2.2.1
                    have x4 := gc _ _ hEE.out.2.2.2.2
                    have c1 := F9.out.c1
                    clear gc hEE hk9 F8
                    have hn_2 : Hid (∀ j u, ([.int .i64 j0, .int .i64 j1, .int .i64 j2, .int .i64 j3, .int .u32 j4] : List Value)[j]? = some u → (w10.alloc (.cells ([.int .i64 j0, .int .i64 j1, .int .i64 j2, .int .i64 j3, .int .u32 j4] : List Value).toArray 65)).cell? ((⟨w10.heap.size, 0, none⟩ : Addr).add j) = some u) := fun j u h => by
                      have h2 := insC_cells w10 (wAt m pc (n + 1)) 65 j u (by rw [hXX2.out]; exact h)
                      rw [hXX2.out] at h2; exact h2
                    have ho_2 : Hid (∀ u ∈ ([.int .i64 j0, .int .i64 j1, .int .i64 j2, .int .i64 j3, .int .u32 j4] : List Value), u.oneCell' = true) := by show ∀ u ∈ ([.int .i64 j0, .int .i64 j1, .int .i64 j2, .int .i64 j3, .int .u32 j4] : List Value), u.oneCell' = true; rw [← hXX2.out]; exact insC_one _
                    have hA_2 : Hid (Below w10.heap.size w10 (w10.alloc (.cells ([.int .i64 j0, .int .i64 j1, .int .i64 j2, .int .i64 j3, .int .u32 j4] : List Value).toArray 65))) := (Below.refl _ _).alloc (Nat.le_refl _) _
                    have FA_2 : Hid (XAt w1 (w10.alloc (.cells ([.int .i64 j0, .int .i64 j1, .int .i64 j2, .int .i64 j3, .int .u32 j4] : List Value).toArray 65)) xb pc (n + 1) m (.slice (some ⟨g7, 0, none⟩) (n + 1) c7)) := F9.out.stays hA_2.out
                    have hbs_2 : Hid (w1.heap.size ≤ (w10.alloc (.cells ([.int .i64 j0, .int .i64 j1, .int .i64 j2, .int .i64 j3, .int .u32 j4] : List Value).toArray 65)).heap.size) := FA_2.out.be.size
                    go_wp2_with (have used_ := FA_2; clear used_; refine wpList_append_moved rfl _ _ 48 rfl w1.heap.size 65 inf0 _ 5 40 Tryd.underlying48 hi hz0 hz1 hz2 rfl (by decide) (.slice (some ⟨g7, 0, none⟩) (n + 1) c7) (n + 1) (insL m pc (n + 1)) rfl ?_ ⟨w10.heap.size, 0, none⟩ 1 1 [.int .i64 j0, .int .i64 j1, .int .i64 j2, .int .i64 j3, .int .u32 j4] rfl rfl ?_ ?_ ?_ ?_ ?_ ?_; exact FA_2.out.row; exact hn_2.out; exact ho_2.out; exact hml2.out; exact hby2.out; exact hbs_2.out; intro v' w11 how hg hmv; rw [← hXX2.out] at how; obtain ⟨g8, c8, rfl⟩ := owns_pos how; have HK7 : Hid _ := FA_2.out.put how hg hmv; have hx1 := HK7.out.1.1; have hf1 := HK7.out.1.2; have F11 : Hid _ := HK7.out.2.1; clear HK7 how hg hmv hn_2 ho_2 FA_2 hA_2 hbs_2 x0 x1 x2 x3 x4 c1 F9)
                    have hfin : Hid _ := hend.out _ _ F11.out
                    (have hJrel := hJH.out; go_meet)
                    refine ⟨?_, hfin.out.2⟩
                    rw [← hfin.out.1]
                    congr 1
                    push_cast
                    omega
                  · have hS2 : (ss2.toList == [115, 116, 111, 114, 101]) = false := by rw [hS]; simpa using l5
                    have c1 := F8.out.c1
                    have hn_ : Hid (∀ j u, ([.int .i64 i0, .int .i64 i1, .int .i64 i2, .int .i64 i3, .int .u32 i4] : List Value)[j]? = some u → (w8.alloc (.cells ([.int .i64 i0, .int .i64 i1, .int .i64 i2, .int .i64 i3, .int .u32 i4] : List Value).toArray 65)).cell? ((⟨w8.heap.size, 0, none⟩ : Addr).add j) = some u) := fun j u h => by
                      have h2 := insC_cells w8 (wAt m pc (n)) 65 j u (by rw [hXX.out]; exact h)
                      rw [hXX.out] at h2; exact h2
                    have ho_ : Hid (∀ u ∈ ([.int .i64 i0, .int .i64 i1, .int .i64 i2, .int .i64 i3, .int .u32 i4] : List Value), u.oneCell' = true) := by show ∀ u ∈ ([.int .i64 i0, .int .i64 i1, .int .i64 i2, .int .i64 i3, .int .u32 i4] : List Value), u.oneCell' = true; rw [← hXX.out]; exact insC_one _
                    have hA_ : Hid (Below w8.heap.size w8 (w8.alloc (.cells ([.int .i64 i0, .int .i64 i1, .int .i64 i2, .int .i64 i3, .int .u32 i4] : List Value).toArray 65))) := (Below.refl _ _).alloc (Nat.le_refl _) _
                    have FA_ : Hid (XAt w1 (w8.alloc (.cells ([.int .i64 i0, .int .i64 i1, .int .i64 i2, .int .i64 i3, .int .u32 i4] : List Value).toArray 65)) xb pc (n) m (.slice p (n) c)) := F8.out.stays hA_.out
                    have hbs_ : Hid (w1.heap.size ≤ (w8.alloc (.cells ([.int .i64 i0, .int .i64 i1, .int .i64 i2, .int .i64 i3, .int .u32 i4] : List Value).toArray 65)).heap.size) := FA_.out.be.size
                    have hkj : Hid (jb ≠ xb ∧ (Value.slice p n c).ownBlock ≠ some jb) := ⟨by omega, fun e => by have := hvl jb e; omega⟩
                    have hjA : (w8.alloc (.cells ([.int .i64 i0, .int .i64 i1, .int .i64 i2, .int .i64 i3, .int .u32 i4] : List Value).toArray 65)).heap[jb]? = w8.heap[jb]? := Below.heap_alloc w8 _ jb hjb8
                    have hjl : jb < (w8.alloc (.cells ([.int .i64 i0, .int .i64 i1, .int .i64 i2, .int .i64 i3, .int .u32 i4] : List Value).toArray 65)).heap.size := by have := hA_.out.size; omega
                    have hJJ : Hid ((w8.alloc (.cells ([.int .i64 i0, .int .i64 i1, .int .i64 i2, .int .i64 i3, .int .u32 i4] : List Value).toArray 65)).heap[jb]? = w8.heap[jb]? ∧ jb < (w8.alloc (.cells ([.int .i64 i0, .int .i64 i1, .int .i64 i2, .int .i64 i3, .int .u32 i4] : List Value).toArray 65)).heap.size) := ⟨hjA, hjl⟩
                    have hEE : Hid (w8.cell? ⟨jb, 0, none⟩ = some (.int .i64 j0) ∧ w8.cell? ⟨jb, 1, none⟩ = some (.int .i64 j1) ∧ w8.cell? ⟨jb, 2, none⟩ = some (.int .i64 j2) ∧ w8.cell? ⟨jb, 3, none⟩ = some (.int .i64 j3) ∧ w8.cell? ⟨jb, 4, none⟩ = some (.int .u32 j4)) := ⟨e0, e1, e2, e3, e4⟩
                    clear hT hS hBr l3 l5 hjA hjl e0 e1 e2 e3 e4 hstop hnoS
                    go_upto_region 26 with (have used_ := FA_; clear used_; refine wpList_append_moved rfl _ _ 48 rfl w1.heap.size 65 inf0 _ 5 40 Tryd.underlying48 hi hz0 hz1 hz2 rfl (by decide) (.slice p (n) c) (n) (insL m pc (n)) rfl ?_ ⟨w8.heap.size, 0, none⟩ 1 1 [.int .i64 i0, .int .i64 i1, .int .i64 i2, .int .i64 i3, .int .u32 i4] rfl rfl ?_ ?_ ?_ ?_ ?_ ?_; exact FA_.out.row; exact hn_.out; exact ho_.out; exact hml.out; exact hby.out; exact hbs_.out; intro v' w9 how hg hmv; rw [← hXX.out] at how; obtain ⟨g7, c7, rfl⟩ := owns_pos how; have HK7 : Hid _ := FA_.out.put how hg hmv; have hx1 := HK7.out.1.1; have hf1 := HK7.out.1.2; have F9 : Hid (XAt w1 (w9.setCell ⟨xb, 1, none⟩ (.slice (some ⟨g7, 0, none⟩) (n + 1) c7)) xb pc (n + 1) m (.slice (some ⟨g7, 0, none⟩) (n + 1) c7)) := HK7.out.2.1; have hk9 : Hid ((w9.setCell ⟨xb, 1, none⟩ (.slice (some ⟨g7, 0, none⟩) (n + 1) c7)).heap[jb]? = w8.heap[jb]?) := (HK7.out.2.2 jb hJJ.out.2 hkj.out.1 hkj.out.2).trans hJJ.out.1; clear HK7 how hg hmv hn_ ho_ FA_ hA_ hbs_ x0 x1 x2 x3 x4 c1 hJJ)
                    (try clear hx1); (try clear hf1)
                    generalize w9.setCell ⟨xb, 1, none⟩ (.slice (some ⟨g7, 0, none⟩) (n + 1) c7) = w10 at *
                    have gc : ∀ (j : Nat) (v : Value), w8.cell? ⟨jb, j, none⟩ = some v → w10.cell? ⟨jb, j, none⟩ = some v := fun j v e => (World.cell?_of_block (a := ⟨jb, j, none⟩) hk9.out).trans e
                    have x0 := gc _ _ hEE.out.1
                    have x1 := gc _ _ hEE.out.2.1
                    have x2 := gc _ _ hEE.out.2.2.1
                    have x3 := gc _ _ hEE.out.2.2.2.1
                    have x4 := gc _ _ hEE.out.2.2.2.2
                    have c1 := F9.out.c1
                    clear gc hEE hk9 F8
                    have hn_2 : Hid (∀ j u, ([.int .i64 j0, .int .i64 j1, .int .i64 j2, .int .i64 j3, .int .u32 j4] : List Value)[j]? = some u → (w10.alloc (.cells ([.int .i64 j0, .int .i64 j1, .int .i64 j2, .int .i64 j3, .int .u32 j4] : List Value).toArray 65)).cell? ((⟨w10.heap.size, 0, none⟩ : Addr).add j) = some u) := fun j u h => by
                      have h2 := insC_cells w10 (wAt m pc (n + 1)) 65 j u (by rw [hXX2.out]; exact h)
                      rw [hXX2.out] at h2; exact h2
                    have ho_2 : Hid (∀ u ∈ ([.int .i64 j0, .int .i64 j1, .int .i64 j2, .int .i64 j3, .int .u32 j4] : List Value), u.oneCell' = true) := by show ∀ u ∈ ([.int .i64 j0, .int .i64 j1, .int .i64 j2, .int .i64 j3, .int .u32 j4] : List Value), u.oneCell' = true; rw [← hXX2.out]; exact insC_one _
                    have hA_2 : Hid (Below w10.heap.size w10 (w10.alloc (.cells ([.int .i64 j0, .int .i64 j1, .int .i64 j2, .int .i64 j3, .int .u32 j4] : List Value).toArray 65))) := (Below.refl _ _).alloc (Nat.le_refl _) _
                    have FA_2 : Hid (XAt w1 (w10.alloc (.cells ([.int .i64 j0, .int .i64 j1, .int .i64 j2, .int .i64 j3, .int .u32 j4] : List Value).toArray 65)) xb pc (n + 1) m (.slice (some ⟨g7, 0, none⟩) (n + 1) c7)) := F9.out.stays hA_2.out
                    have hbs_2 : Hid (w1.heap.size ≤ (w10.alloc (.cells ([.int .i64 j0, .int .i64 j1, .int .i64 j2, .int .i64 j3, .int .u32 j4] : List Value).toArray 65)).heap.size) := FA_2.out.be.size
                    go_wp2_with (have used_ := FA_2; clear used_; refine wpList_append_moved rfl _ _ 48 rfl w1.heap.size 65 inf0 _ 5 40 Tryd.underlying48 hi hz0 hz1 hz2 rfl (by decide) (.slice (some ⟨g7, 0, none⟩) (n + 1) c7) (n + 1) (insL m pc (n + 1)) rfl ?_ ⟨w10.heap.size, 0, none⟩ 1 1 [.int .i64 j0, .int .i64 j1, .int .i64 j2, .int .i64 j3, .int .u32 j4] rfl rfl ?_ ?_ ?_ ?_ ?_ ?_; exact FA_2.out.row; exact hn_2.out; exact ho_2.out; exact hml2.out; exact hby2.out; exact hbs_2.out; intro v' w11 how hg hmv; rw [← hXX2.out] at how; obtain ⟨g8, c8, rfl⟩ := owns_pos how; have HK7 : Hid _ := FA_2.out.put how hg hmv; have hx1 := HK7.out.1.1; have hf1 := HK7.out.1.2; have F11 : Hid _ := HK7.out.2.1; clear HK7 how hg hmv hn_2 ho_2 FA_2 hA_2 hbs_2 x0 x1 x2 x3 x4 c1 F9)
                    have hfin : Hid _ := hend.out _ _ F11.out
                    (have hJrel := hJH.out; go_meet)
                    refine ⟨?_, hfin.out.2⟩
                    rw [← hfin.out.1]
                    congr 1
                    push_cast
                    omega
              · have hr2' : decide (16384 ≤ pc + 4 * (n : Int) + 4) = true := by unfold many at hr2; simp; omega
                have hfin : Hid _ := hnoS.out _ F5.out (Or.inl (lk_false (by omega)))
                clear x0 x1 x2 x3 x4
                go_wp2
                (have hJrel := hJH.out; go_meet)
                exact ⟨by rw [← hfin.out.1], hfin.out.2⟩
            · have hr' : decide ((most : Int) < (n : Int) + 2) = true := by simp; omega
              have hfin : Hid _ := hnoS.out _ F5.out (Or.inl (lk_false (by omega)))
              clear x0 x1 x2 x3 x4
              go_wp2
              (have hJrel := hJH.out; go_meet)
              exact ⟨by rw [← hfin.out.1], hfin.out.2⟩
          · have hBr' : (ss.toList == [98, 114, 97, 110, 99, 104]) = false := by rw [hBr]; simpa using k2
            have F7n : Hid (∀ W v', XAt w1 W xb pc (n + 1) m v' → FoR w1 W xb pc most m (n + 1) (stP (kdAt m pc) n st)) := fun W v' h => ⟨⟨v', h⟩, SH.out.next hlk (by have := hKd.out; omega), (lenP_one hlk (by have := hKd.out; omega)).symm.trans hLH.out⟩
            by_cases k5' : kd = 5
            · have hS' : (ss.toList == [115, 116, 111, 114, 101]) = true := by rw [hS]; simpa using k5'
              have h8 := h58 k5'
              have hSt : Hid (stP (kdAt m pc) n st = st + 1) := by show stP _ _ _ = _; unfold stP; rw [if_pos (by have := hKd.out; omega)]
              rw [hSt.out] at F7n
              clear hT hS hBr h58 k5'
              go_upto_region 16 with fail
              generalize w4.alloc (.cells #[.int .i64 0, .int .i64 0, .int .i64 0, .int .i64 0, .int .u32 0] 65) = w5 at *
              generalize w4.heap.size = jb at *
              have c1 := F5.out.c1
              have hn_ : Hid (∀ j u, ([.int .i64 i0, .int .i64 i1, .int .i64 i2, .int .i64 i3, .int .u32 i4] : List Value)[j]? = some u → (w5.alloc (.cells ([.int .i64 i0, .int .i64 i1, .int .i64 i2, .int .i64 i3, .int .u32 i4] : List Value).toArray 65)).cell? ((⟨w5.heap.size, 0, none⟩ : Addr).add j) = some u) := fun j u h => by
                have h2 := insC_cells w5 (wAt m pc (n)) 65 j u (by rw [hXX.out]; exact h)
                rw [hXX.out] at h2; exact h2
              have ho_ : Hid (∀ u ∈ ([.int .i64 i0, .int .i64 i1, .int .i64 i2, .int .i64 i3, .int .u32 i4] : List Value), u.oneCell' = true) := by show ∀ u ∈ ([.int .i64 i0, .int .i64 i1, .int .i64 i2, .int .i64 i3, .int .u32 i4] : List Value), u.oneCell' = true; rw [← hXX.out]; exact insC_one _
              have hA_ : Hid (Below w5.heap.size w5 (w5.alloc (.cells ([.int .i64 i0, .int .i64 i1, .int .i64 i2, .int .i64 i3, .int .u32 i4] : List Value).toArray 65))) := (Below.refl _ _).alloc (Nat.le_refl _) _
              have FA_ : Hid (XAt w1 (w5.alloc (.cells ([.int .i64 i0, .int .i64 i1, .int .i64 i2, .int .i64 i3, .int .u32 i4] : List Value).toArray 65)) xb pc (n) m (.slice p (n) c)) := F5.out.stays hA_.out
              have hbs_ : Hid (w1.heap.size ≤ (w5.alloc (.cells ([.int .i64 i0, .int .i64 i1, .int .i64 i2, .int .i64 i3, .int .u32 i4] : List Value).toArray 65)).heap.size) := FA_.out.be.size
              go_upto_region 24 with fail
              go_upto_region 28 with (have used_ := FA_; clear used_; refine wpList_append_moved rfl _ _ 48 rfl w1.heap.size 65 inf0 _ 5 40 Tryd.underlying48 hi hz0 hz1 hz2 rfl (by decide) (.slice p (n) c) (n) (insL m pc (n)) rfl ?_ ⟨w5.heap.size, 0, none⟩ 1 1 [.int .i64 i0, .int .i64 i1, .int .i64 i2, .int .i64 i3, .int .u32 i4] rfl rfl ?_ ?_ ?_ ?_ ?_ ?_; exact FA_.out.row; exact hn_.out; exact ho_.out; exact hml.out; exact hby.out; exact hbs_.out; intro v' w7 how hg hmv; rw [← hXX.out] at how; obtain ⟨g7, c7, rfl⟩ := owns_pos how; have HK7 : Hid _ := FA_.out.put how hg hmv; have hx1 := HK7.out.1.1; have hf1 := HK7.out.1.2; have F7 : Hid _ := HK7.out.2.1; have hk7 : Hid _ := HK7.out.2.2; clear HK7 how hg hmv hn_ ho_ FA_ hA_ hbs_ x0 x1 x2 x3 x4 c1 hvl hjb hib hxl hidx hq hq' Z5)
              clear hn24 hst8 hmo ha' hb' hml hby hml2 hby2 hlk
              go_wp2
              go_roundw
              case rel => exact ⟨n + 1, st + 1, by go_num, by go_num, F7n.out _ _ F7.out⟩
              case measure => simp [intOf]; omega
            · have hS' : (ss.toList == [115, 116, 111, 114, 101]) = false := by rw [hS]; simpa using k5'
              have hSt : Hid (stP (kdAt m pc) n st = st) := by show stP _ _ _ = _; unfold stP; rw [if_neg (by have := hKd.out; omega)]
              rw [hSt.out] at F7n
              clear hT hS hBr h58
              go_upto_region 16 with fail
              generalize w4.alloc (.cells #[.int .i64 0, .int .i64 0, .int .i64 0, .int .i64 0, .int .u32 0] 65) = w5 at *
              generalize w4.heap.size = jb at *
              have c1 := F5.out.c1
              have hn_ : Hid (∀ j u, ([.int .i64 i0, .int .i64 i1, .int .i64 i2, .int .i64 i3, .int .u32 i4] : List Value)[j]? = some u → (w5.alloc (.cells ([.int .i64 i0, .int .i64 i1, .int .i64 i2, .int .i64 i3, .int .u32 i4] : List Value).toArray 65)).cell? ((⟨w5.heap.size, 0, none⟩ : Addr).add j) = some u) := fun j u h => by
                have h2 := insC_cells w5 (wAt m pc (n)) 65 j u (by rw [hXX.out]; exact h)
                rw [hXX.out] at h2; exact h2
              have ho_ : Hid (∀ u ∈ ([.int .i64 i0, .int .i64 i1, .int .i64 i2, .int .i64 i3, .int .u32 i4] : List Value), u.oneCell' = true) := by show ∀ u ∈ ([.int .i64 i0, .int .i64 i1, .int .i64 i2, .int .i64 i3, .int .u32 i4] : List Value), u.oneCell' = true; rw [← hXX.out]; exact insC_one _
              have hA_ : Hid (Below w5.heap.size w5 (w5.alloc (.cells ([.int .i64 i0, .int .i64 i1, .int .i64 i2, .int .i64 i3, .int .u32 i4] : List Value).toArray 65))) := (Below.refl _ _).alloc (Nat.le_refl _) _
              have FA_ : Hid (XAt w1 (w5.alloc (.cells ([.int .i64 i0, .int .i64 i1, .int .i64 i2, .int .i64 i3, .int .u32 i4] : List Value).toArray 65)) xb pc (n) m (.slice p (n) c)) := F5.out.stays hA_.out
              have hbs_ : Hid (w1.heap.size ≤ (w5.alloc (.cells ([.int .i64 i0, .int .i64 i1, .int .i64 i2, .int .i64 i3, .int .u32 i4] : List Value).toArray 65)).heap.size) := FA_.out.be.size
              go_upto_region 24 with fail
              go_upto_region 28 with (have used_ := FA_; clear used_; refine wpList_append_moved rfl _ _ 48 rfl w1.heap.size 65 inf0 _ 5 40 Tryd.underlying48 hi hz0 hz1 hz2 rfl (by decide) (.slice p (n) c) (n) (insL m pc (n)) rfl ?_ ⟨w5.heap.size, 0, none⟩ 1 1 [.int .i64 i0, .int .i64 i1, .int .i64 i2, .int .i64 i3, .int .u32 i4] rfl rfl ?_ ?_ ?_ ?_ ?_ ?_; exact FA_.out.row; exact hn_.out; exact ho_.out; exact hml.out; exact hby.out; exact hbs_.out; intro v' w7 how hg hmv; rw [← hXX.out] at how; obtain ⟨g7, c7, rfl⟩ := owns_pos how; have HK7 : Hid _ := FA_.out.put how hg hmv; have hx1 := HK7.out.1.1; have hf1 := HK7.out.1.2; have F7 : Hid _ := HK7.out.2.1; have hk7 : Hid _ := HK7.out.2.2; clear HK7 how hg hmv hn_ ho_ FA_ hA_ hbs_ x0 x1 x2 x3 x4 c1 hvl hjb hib hxl hidx hq hq' Z5)
              clear hn24 hst8 hmo ha' hb' hml hby hml2 hby2 hlk
              go_wp2
              go_roundw
              case rel => exact ⟨n + 1, st, by go_num, by go_num, F7n.out _ _ F7.out⟩
              case measure => simp [intOf]; omega
        · have hb' : decide (pc + 4 * (n : Int) < 16384) = false := by unfold many at hb; simp; omega
          have hfin : Hid _ := hstop.out _ FH.out (lenP_stop (lk_false (by omega)) _)
          go_wp2
          (have hJrel := hJH.out; go_meet)
          exact ⟨by rw [← hfin.out.1], hfin.out.2⟩
      · have ha' : decide ((n : Int) < most) = false := by simp; omega
        have hfin : Hid _ := hstop.out _ FH.out (lenP_stop (lk_false (by omega)) _)
        go_wp2
        (have hJrel := hJH.out; go_meet)
        exact ⟨by rw [← hfin.out.1], hfin.out.2⟩
  case rest =>
    obtain ⟨rfl, vi, F⟩ := hcut
    have hreg := lenR_reg (kdAt m pc) (many pc) most
    obtain ⟨L, hLe⟩ : ∃ L, L = lenR (kdAt m pc) (many pc) most := ⟨_, rfl⟩
    have hL24 : L ≤ 24 := by have := hreg.room; omega
    have hLL : Hid (L = lenR (kdAt m pc) (many pc) most) := hLe
    rw [← hLe] at F
    rw [← hLe]
    clear hLe hreg F0
    have hBc : Hid (Below w.heap.size w wc) := hB.out.trans (F.be.mono hB.out.size)
    have Zc : Hid (RZ36 wc w.heap.size) := Z.out.stays F.be hrb1.out
    have FH : Hid (XAt w1 wc xb pc L m vi) := F
    have c0 := F.c0
    have c1 := F.c1
    have c2 := F.c2
    obtain ⟨p, c, rfl⟩ := F.len
    obtain ⟨r0, r1, r2, rf⟩ := Zc.out
    have rf0 := rf 0
    have rf1 := rf 1
    have rf2 := rf 2
    have hxr : xb ≠ w.heap.size := by omega
    have hL24' : (L : Int) ≤ 24 := by omega
    clear F G
    by_cases hz : L = 0
    · have hz0 : ((L : Int) == 0) = true := by simp; omega
      have hzH : Hid (L = 0) := hz
      clear hz
      go_wp2
      exact bodyPost_ret (results_cell1 Tryd.results25 _ _ _ (A := ⟨w.heap.size, 0, none⟩) rfl (put3_load36 Zc.out)) rfl ⟨below_put3 hBc.out (Nat.le_refl _), Or.inl ⟨by rw [← hLL.out]; exact hzH.out, rfl⟩⟩
    · have hz0 : ((L : Int) == 0) = false := by simp; omega
      have hL1 : 1 ≤ L := by omega
      have hcn : (cntP pc L : Int) = (pc + 4 * L - 1) / 256 - pc / 256 + 1 := by unfold cntP; omega
      have hc3 : cntP pc L ≤ 3 := by unfold cntP; omega
      have hc1 : 1 ≤ cntP pc L := by unfold cntP; omega
      obtain ⟨cnt, hcnt⟩ : ∃ cnt, cnt = cntP pc L := ⟨_, rfl⟩
      rw [← hcnt] at hcn hc3 hc1
      have hcH : Hid (cnt = cntP pc L) := hcnt
      have P0 : Hid (PgAt w1 wc wc xb pc L m (.slice p L c) 0) := ⟨_, c0, c1, c2, FH.out.fz, FH.out.row, ⟨rfl, Or.inl ⟨rfl, rfl⟩⟩, FH.out.be, Nat.le_refl _, FH.out.lt, fun k e => (owns_lt FH.out.row k e).2⟩
      have hlf := FH.out.lf
      have hvx := FH.out.vb
      have hw1c := FH.out.be.size
      have hxwc : w.heap.size < wc.heap.size := by have := FH.out.lt; omega
      obtain ⟨inf3, hi3, hy0, hy1, hy2⟩ := info_parts info3
      clear hz hcnt FH c0 c2 r0 r1 r2 rf rf0 rf1 rf2
      go_wp2
      go_loopw [16] (fun iv wr => ∃ k : Nat, k ≤ cnt ∧ iv = .int .i64 (pc / 256 + k) ∧ PgAt w1 wc wr xb pc L m (.slice p L c) k) (fun iv _ => cnt - (intOf iv - pc / 256).toNat)
      case atStart => exact ⟨0, by omega, by simp, P0.out⟩
      case round =>
        clear P0 c1
        obtain ⟨k, hk, rfl, vp, P⟩ := hrel
        have hk3 : (k : Int) ≤ 3 := by omega
        have c2 := P.c2
        by_cases hlt : k < cnt
        · have hd : decide ((pc / 256 + (k : Int)) * 256 < pc + 4 * (L : Int)) = true := by simp; omega
          have hrow2 : Hid _ := P.pgs.alloc (.cells #[.int .i64 (pc / 256 + k)] 3)
          have hnews : Hid (∀ i u, ([.int .i64 (pc / 256 + k)] : List Value)[i]? = some u → (wr.alloc (.cells #[.int .i64 (pc / 256 + k)] 3)).cell? ((⟨wr.heap.size, 0, none⟩ : Addr).add i) = some u) := by
            intro i u h
            have hi0 : i = 0 := by have := (List.getElem?_eq_some_iff.1 h).1; simpa using this
            subst hi0
            rw [add_lit]; simp at h ⊢; exact h
          have hone : Hid (∀ u ∈ ([.int .i64 (pc / 256 + k)] : List Value), u.oneCell' = true) := by intro u h; simp at h; subst h; rfl
          have hsz : Hid (wc.heap.size ≤ (wr.alloc (.cells #[.int .i64 (pc / 256 + k)] 3)).heap.size) := by have := P.sz; show _ ≤ _; simp; omega
          have hm1 : Hid (k + 1 ≤ maxLen) := by show _ ≤ _; unfold maxLen; omega
          have hm2 : Hid ((k + 1) * 8 ≤ 140737488355328) := by show _ ≤ _; omega
          have PH : Hid (PgRow w1 wc wr xb pc L m (.slice p L c) k vp) := P
          obtain ⟨q, cq, hvq⟩ : ∃ q cq, vp = .slice q k cq := by
            rcases P.pgs.2 with ⟨rfl, rfl⟩ | ⟨g, cap, cur, rfl, _⟩
            · exact ⟨none, 0, rfl⟩
            · exact ⟨_, _, rfl⟩
          subst hvq
          clear P
          go_wp2_with (have used_ := hrow2; clear used_; refine wpList_append_moved rfl _ _ 49 rfl wc.heap.size 3 inf3 _ 1 8 Tryd.underlying49 hi3 hy0 hy1 hy2 rfl (by decide) (.slice q k cq) k (pgV (pc / 256) k) rfl ?_ ⟨wr.heap.size, 0, none⟩ 1 1 [.int .i64 (pc / 256 + k)] rfl rfl ?_ ?_ ?_ ?_ ?_ ?_; exact hrow2.out; exact hnews.out; exact hone.out; exact hm1.out; exact hm2.out; exact hsz.out; intro v' w7 how hg hmv; obtain ⟨g7, c7, rfl⟩ := owns_pos how; have HK7 : Hid _ := PH.out.put hw1c hlf hvx how hg hmv; have hx1 := HK7.out.1.1; have hf1 := HK7.out.1.2; have P7 : Hid _ := HK7.out.2; clear HK7 how hg hmv hrow2 hnews hone hsz hm1 hm2 PH c2)
          go_roundw
          case rel => exact ⟨k + 1, by omega, by go_num, _, P7.out⟩
          case measure => simp [intOf]; omega
        · have hd : decide ((pc / 256 + (k : Int)) * 256 < pc + 4 * (L : Int)) = false := by simp; omega
          obtain rfl : k = cnt := by omega
          have c0 := P.c0
          have c1 := P.c1
          have hri : Hid (wr.ownsRow w1.heap.size 65 5 (.slice p L c) L (insL m pc L)) := P.row
          have hrp : Hid (wr.ownsRow wc.heap.size 3 1 vp k (pgV (pc / 256) k)) := P.pgs
          have Zr := Z.out.stays P.be hrb1.out
          have ZrH : Hid (RZ36 wr w.heap.size) := Zr
          obtain ⟨r0, r1, r2, rf⟩ := Zr
          have rf0 := rf 0
          have rf1 := rf 1
          have rf2 := rf 2
          obtain ⟨k', hk'⟩ : ∃ k', k = k' + 1 := ⟨k - 1, by omega⟩
          obtain ⟨g8, c8, hv8⟩ : ∃ g8 c8, vp = .slice (some ⟨g8, 0, none⟩) k c8 := by
            subst hk'
            exact owns_pos P.pgs
          subst hv8
          have hBr2 : Hid (Below w.heap.size w wr) := hB.out.trans (P.be.mono hB.out.size)
          have hsz2 : Hid (w.heap.size ≤ wc.heap.size) := hBc.out.size
          have hw1w : w.heap.size ≤ w1.heap.size := by have := hrb1.out; omega
          have hvr : Hid (∀ i, (Value.slice p L c).ownBlock = some i → i ≠ w.heap.size) := fun i e => by have := (owns_lt hri.out i e).1; have := hrb1.out; omega
          have hpr : Hid (∀ i, (Value.slice (some ⟨g8, 0, none⟩) k c8).ownBlock = some i → i ≠ w.heap.size) := fun i e => by have := (owns_lt hrp.out i e).1; have := hxwc; omega
          clear P hk'
          go_wp2
          refine bodyPost_ret (results_cell1 Tryd.results25 _ _ _ (A := ⟨w.heap.size, 0, none⟩) rfl (put3_load36 ZrH.out)) rfl ⟨below_put3 hBr2.out (Nat.le_refl _), Or.inr ⟨by rw [← hLL.out]; exact hL1, .agg #[.int .u32 pc, .slice p L c, .slice (some ⟨g8, 0, none⟩) k c8], .slice p L c, .slice (some ⟨g8, 0, none⟩) k c8, rfl, ?_⟩⟩
          rw [← hLL.out]
          refine ⟨rfl, owns_base (owns_blocks hri.out (fun i e => put3_heap i (hvr.out i e))) hw1w, ?_⟩
          rw [← hcH.out]
          exact owns_base (owns_blocks hrp.out (fun i e => put3_heap i (hpr.out i e))) hsz2.out
end
end Go.Proofs.YtckcbnfobjmhpaaDoor
