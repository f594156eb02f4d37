/-
  sameEnd.
-/
import Derived.Test.YtjkencgcdlfjhaaGreatDoorJModel
import Derived.Test.YtjkencgcdlfjhaaGreatDoorJPlace
import Derived.Test.YtjkencgcdlfjhaaGreatDoorQRun2
namespace Go.Proofs.YtjkencgcdlfjhaaGreatDoor
open Go.RowKit Go.Maps
open Num
set_option linter.unusedVariables false
theorem load_place {w : World} {b : Nat} {S : St} {v : Value} {wc : Int} (A : RowIs w b 29 45 (plV S v wc)) : (loadVar 29 ⟨b, 0, none⟩).run Tryz.prog w = .ok (.agg (plA S v wc)) w :=
  run_loadVar_mid w b 0 29 ((List.range 45).map (plV S v wc)) _ (fun j u hu => by
    have hj : j < 45 := by have := (List.getElem?_eq_some_iff.1 hu).1; simpa using this
    rw [Nat.zero_add, A.cell hj]
    rw [List.getElem?_map, List.getElem?_range hj] at hu
    exact hu) Tryz.underlying29 rfl (by show _ = some 45; kernel_rfl)
theorem wpList_loadT {ops : Array Oper} {Q : Exit → Act → World → Prop} {a : Act} {w : World} {rest : List Oper} {o : Oper} (t : TypeId) (x : Operand) (hop : o.op = .load t x) (sb : Nat) (v : Value) (hgd : Region.wanted o (yielded ops a.tmps) = true) (hx : a.eval x = .pointer (some ⟨sb, 0, none⟩)) (hl : (loadVar t ⟨sb, 0, none⟩).run Tryz.prog w = .ok v w)
    (h : wpList Tryz.prog ops Q rest (a.put o.dst v) w) : wpList Tryz.prog ops Q (o :: rest) a w :=
  wpList_step fun K hK => by
    rw [if_pos hgd]
    unfold Oper.wp
    rw [exec_loadT hop hx w hl, Oper.upon_value]
    exact hK _ _ h
/-- two ends that no one tells apart, where traps are alike wherever they are -/
def OzSame : Oz → Oz → Prop
  | .trap _, .trap _ => True
  | .leave M, .leave N => M.lv = N.lv ∧ (∀ i, i < 4096 → M.m i = N.m i) ∧ ∀ r : Nat, 1 ≤ r → r ≤ 33 → M.x r = N.x r
  | .fell, .fell => True
  | _, _ => False
def rgS (S : St) (j : Nat) : Int := if j < 32 then S.r j else if j = 32 then S.hi else S.lo
theorem rgS_v (S : St) : ∀ j, j < 34 → stV S j = .int .u32 (rgS S j) := by
  intro j hj
  unfold stV rgS
  by_cases h : j < 32
  · rw [if_pos h, if_pos h]
  · rw [if_neg h, if_neg h]
    by_cases h2 : j = 32
    · rw [if_pos h2, if_pos h2]
    · rw [if_neg h2, if_neg h2, if_pos (by omega)]
theorem rgS_bd {S : St} (ok : S.ok) : ∀ j, j < 34 → 0 ≤ rgS S j ∧ rgS S j < 4294967296 := by
  intro j hj
  unfold rgS
  split
  · exact ok.r j
  · split
    · exact ok.hi
    · exact ok.lo
/-- what is told of an end: whether it trapped, a state, words -/
theorem stF_same {f : Nat → Value} {M N : Mz} {many ct : Int} (h1 : M.lv = N.lv) (h2 : ∀ r : Nat, 1 ≤ r → r ≤ 33 → M.x r = N.x r) : ∀ j, j < 43 → stF f M many ct j = stF f N many ct j := by
  intro j hj
  unfold stF
  by_cases h : 1 ≤ j ∧ j < 34
  · rw [if_pos h, if_pos h, h2 j h.1 (by omega)]
  · rw [if_neg h, if_neg h, h1]
/-- a state behind a run, as a state -/
def lfS (S : St) (M : Mz) (many : Int) : St := { S with r := fun j => if 1 ≤ j then M.x j else S.r j, hi := M.x 32, lo := M.x 33, pc := M.lv, nx := lo (M.lv + 4), ct := S.ct + many }
theorem stF_st (S : St) (M : Mz) (many : Int) : ∀ j, j < 43 → stV (lfS S M many) j = stF (stV S) M many S.ct j := by
  intro j hj
  by_cases h0 : j = 0
  · subst h0; rfl
  · by_cases h1 : j < 34
    · have e : stF (stV S) M many S.ct j = .int .u32 (M.x j) := by unfold stF; rw [if_pos (by omega)]
      rw [e]
      unfold stV lfS
      by_cases h : j < 32
      · rw [if_pos h]; show Value.int .u32 (if 1 ≤ j then M.x j else S.r j) = _; rw [if_pos (by omega)]
      · rw [if_neg h]
        by_cases h2 : j = 32
        · rw [if_pos h2, h2]
        · rw [if_neg h2, if_pos (by omega)]; rw [show j = 33 by omega]
    · have hc : j = 34 ∨ j = 35 ∨ j = 36 ∨ j = 37 ∨ j = 38 ∨ j = 39 ∨ j = 40 ∨ j = 41 ∨ j = 42 := by omega
      rcases hc with rfl | rfl | rfl | rfl | rfl | rfl | rfl | rfl | rfl <;> rfl
/-- what a run leaves behind of what was there: its own state and its own memory aside -/
structure Rn (w w' : World) (sb rb g0 : Nat) (S : St) (m : Nat → Int) : Prop where
  st : StRow w' sb S
  wd : ∃ gb, w'.cell? ⟨rb, 0, none⟩ = some (.slice (some ⟨gb, 0, none⟩) 4096 4096) ∧ (gb = g0 ∨ w.heap.size ≤ gb) ∧ (∀ i, i < 4096 → w'.cell? ⟨gb, i, none⟩ = some (.int .u32 (m i)))
  bk : ∀ k, k < w.heap.size → k ≠ sb → k ≠ rb → w'.heap[k]? = w.heap[k]?
  sz : w.heap.size ≤ w'.heap.size
  os : w'.os = w.os
  tape : w'.tape = w.tape
  output : w'.output = w.output
/-- the end's own words: trap, a state, memory -/
def ozT : Oz → Bool
  | .trap _ => true
  | _ => false
def ozS (S : St) (many : Int) : Oz → St
  | .leave M => lfS S M many
  | _ => S
def ozM (m : Nat → Int) : Oz → (Nat → Int)
  | .leave M => M.m
  | _ => m
theorem runS_any {w : World} {rb gb kb hb : Nat} {m : Nat → Int} {wt ht : Int → Bool} (D : DMem w rb gb kb hb m wt ht) (sb : Nat) (S : St) (hS : StRow w sb S) (ok : S.ok) (c0 : 0 ≤ S.ct) (c1 : S.ct ≤ 1099511627776) (hsr : sb ≠ rb) (hsg : gb ≠ sb) {v : Value} {rs : List (List Opx)} (R : RowsI w v rs) (F : Few rs) (many : Int) (m0 : 1 ≤ many) (m1 : many ≤ 24) (hw : ∀ row ∈ rs, ∀ o ∈ row, opE o many = 0) :
    Calls Tryz.prog 40 #[v, .int .i64 many, .pointer (some ⟨sb, 0, none⟩), .pointer (some ⟨rb, 0, none⟩)] w fun e w' => (∃ a fl, e = .returned (.agg #[.bool (ozT (runZ wt rs (nwX (rgS S) 34) m)), .int .i64 a, .bool fl])) ∧ Rn w w' sb rb gb (ozS S many (runZ wt rs (nwX (rgS S) 34) m)) (ozM m (runZ wt rs (nwX (rgS S) 34) m)) := by
  refine (runOf_any D sb (stV S) hS (rgS S) (rgS_v S) (rgS_bd ok) S.ct S.pc S.nx rfl rfl rfl c0 c1 hsr R F many m0 m1 hw).mono ?_
  intro e w' h
  have hsb := hS.lt
  have hg := D.d.lt (.inr (.inl rfl))
  cases hz : runZ wt rs (nwX (rgS S) 34) m with
  | trap t =>
    rw [hz] at h
    obtain ⟨rfl, hb⟩ := h
    exact ⟨⟨t, false, rfl⟩, ⟨hS.stays hb, ⟨gb, (D.d.stays hb).c0, .inl rfl, fun i hi => (D.d.stays hb).cell i hi⟩, fun k hk _ _ => hb.block k hk, hb.size, hb.os, hb.tape, hb.output⟩⟩
  | fell =>
    rw [hz] at h
    obtain ⟨rfl, hb⟩ := h
    exact ⟨⟨0, true, rfl⟩, ⟨hS.stays hb, ⟨gb, (D.d.stays hb).c0, .inl rfl, fun i hi => (D.d.stays hb).cell i hi⟩, fun k hk _ _ => hb.block k hk, hb.size, hb.os, hb.tape, hb.output⟩⟩
  | leave M =>
    rw [hz] at h
    obtain ⟨rfl, h1, ⟨gb', h2, h3, h4⟩, h5, h6, h7, h8, h9⟩ := h
    exact ⟨⟨0, false, rfl⟩, ⟨RowIs.congrP h1 (stF_st S M many), ⟨gb', h2, .inr h3, h4⟩, h5, h6, h7, h8, h9⟩⟩
theorem OzSame.told {S : St} {many : Int} {m : Nat → Int} {a b : Oz} (h : OzSame a b) : ozT a = ozT b ∧ stA (ozS S many a) = stA (ozS S many b) ∧ ∀ i, i < 4096 → ozM m a i = ozM m b i := by
  cases a <;> cases b <;> simp only [OzSame] at h
  · exact ⟨rfl, rfl, fun _ _ => rfl⟩
  · obtain ⟨h1, h2, h3⟩ := h
    refine ⟨rfl, stA_congr (fun j hj => ?_), h2⟩
    show stV (lfS S _ many) j = stV (lfS S _ many) j
    rw [stF_st _ _ _ j hj, stF_st _ _ _ j hj]
    exact stF_same h1 h3 j hj
  · exact ⟨rfl, rfl, fun _ _ => rfl⟩
end Go.Proofs.YtjkencgcdlfjhaaGreatDoor
/-
  sameEnd, walked.
-/
namespace Go.Proofs.YtjkencgcdlfjhaaGreatDoor
open Go.RowKit Go.Maps
open Num
set_option linter.unusedVariables false
theorem DMem.blocksP {w w' : World} {rb gb kb hb : Nat} {m : Nat → Int} {wt ht : Int → Bool} (D : DMem w rb gb kb hb m wt ht) (h : ∀ k, k = rb ∨ k = gb ∨ k = kb ∨ k = hb → w'.heap[k]? = w.heap[k]?) : DMem w' rb gb kb hb m wt ht :=
  ⟨D.d.blocks fun k hk => h k (by rcases hk with e | e | e <;> simp [e]), (World.cell?_of_block (a := ⟨rb, 2, none⟩) (h rb (by simp))).trans D.c2, fun p hp => (World.cell?_of_block (a := ⟨hb, p, none⟩) (h hb (by simp))).trans (D.hc p hp), fun p => (World.frozen?_of_block (a := ⟨kb, p, none⟩) (h kb (by simp))).trans (D.fk p), fun p => (World.frozen?_of_block (a := ⟨hb, p, none⟩) (h hb (by simp))).trans (D.fh p), D.ng, D.nr, D.nk, D.kr, fun p => (World.frozen?_of_block (a := ⟨rb, p, none⟩) (h rb (by simp))).trans (D.fr p)⟩
theorem DMem.hlt {w : World} {rb gb kb hb : Nat} {m : Nat → Int} {wt ht : Int → Bool} (D : DMem w rb gb kb hb m wt ht) : rb < w.heap.size ∧ gb < w.heap.size ∧ kb < w.heap.size ∧ hb < w.heap.size := ⟨D.d.lt (.inl rfl), D.d.lt (.inr (.inl rfl)), D.d.lt (.inr (.inr rfl)), World.block_lt_of_cell? _ _ (D.hc 0 (by omega))⟩
structure Ck7 (W : World) (e1 e2 s1 s2 r1 r2 ga gc : Nat) (t : Bool) (F G : St) : Prop where
  a : W.cell? ⟨e1, 0, none⟩ = some (.bool t)
  b : W.cell? ⟨e2, 0, none⟩ = some (.bool t)
  c : W.cell? ⟨r1, 0, none⟩ = some (.slice (some ⟨ga, 0, none⟩) 4096 4096)
  d : W.cell? ⟨r2, 0, none⟩ = some (.slice (some ⟨gc, 0, none⟩) 4096 4096)
  x : StAt W s1 F
  y : StAt W s2 G
theorem Ck7.stays {W W' : World} {e1 e2 s1 s2 r1 r2 ga gc : Nat} {t : Bool} {F G : St} (C : Ck7 W e1 e2 s1 s2 r1 r2 ga gc t F G) (h : Below W.heap.size W W') : Ck7 W' e1 e2 s1 s2 r1 r2 ga gc t F G :=
  ⟨(h.cell (p := ⟨e1, 0, none⟩) (World.block_lt_of_cell? _ _ C.a)).trans C.a, (h.cell (p := ⟨e2, 0, none⟩) (World.block_lt_of_cell? _ _ C.b)).trans C.b, (h.cell (p := ⟨r1, 0, none⟩) (World.block_lt_of_cell? _ _ C.c)).trans C.c, (h.cell (p := ⟨r2, 0, none⟩) (World.block_lt_of_cell? _ _ C.d)).trans C.d, C.x.stays h, C.y.stays h⟩
theorem Rn.below {w w' wz : World} {sb rb g0 : Nat} {S : St} {m : Nat → Int} (R : Rn w w' sb rb g0 S m) (h : Below wz.heap.size wz w) (h1 : wz.heap.size ≤ sb) (h2 : wz.heap.size ≤ rb) : Below wz.heap.size wz w' :=
  ⟨R.os.trans h.os, R.tape.trans h.tape, R.output.trans h.output, Nat.le_trans h.size R.sz, fun k hk => (R.bk k (Nat.lt_of_lt_of_le hk h.size) (by omega) (by omega)).trans (h.block k hk)⟩
set_option maxRecDepth 100000 in
set_option maxHeartbeats 8000000 in
theorem sameEnd_any {w : World} (S : St) (ok : S.ok) (c0 : 0 ≤ S.ct) (c1 : S.ct ≤ 1099511627776) {v : Value} {xs : List Int} (X : WordsIn w v xs) (hx : xs.length ≤ 200) (wa pc : Int) (p0 : 0 ≤ pc) (p1 : pc < 4294967296) {va vb : Value} {ra rb : List (List Opx)} (RA : RowsI w va ra) (RB : RowsI w vb rb) (FA : Few ra) (FB : Few rb) (many : Int) (m0 : 1 ≤ many) (m1 : many ≤ 24) (wa1 : ∀ row ∈ ra, ∀ o ∈ row, opE o many = 0) (wb1 : ∀ row ∈ rb, ∀ o ∈ row, opE o many = 0)
    (hz : OzSame (runZ (fun p => decide (p = wa)) ra (nwX (rgS (plS S pc)) 34) (mw xs)) (runZ (fun p => decide (p = wa)) rb (nwX (rgS (plS S pc)) 34) (mw xs))) :
    Calls Tryz.prog 34 #[va, vb, .int .i64 many, .agg (plA S v wa), .int .u32 pc] w fun e w' => e = .returned (.bool true) ∧ Below w.heap.size w w' := by
  have P0 := pl_row w S v wa
  have B0 : Below w.heap.size w (w.alloc (.cells (plA S v wa) 29)) := (Below.refl _ _).alloc (Nat.le_refl _) _
  have okT := plS_ok ok ⟨p0, p1⟩
  have ctT : (plS S pc).ct = S.ct := rfl
  have HWX : Hid (∀ W, Below w.heap.size w W → WordsIn W v xs) := fun W hW => X.stays hW
  have HRA : Hid (∀ W, Below w.heap.size w W → RowsI W va ra) := fun W hW => RA.stays hW
  have HRB : Hid (∀ W, Below w.heap.size w W → RowsI W vb rb) := fun W hW => RB.stays hW
  have HZ : Hid _ := hz.told (S := plS S pc) (many := many) (m := mw xs)
  have h43 : (plA S v wa)[43]? = some v := by rw [plA_get _ _ _ 43 (by omega)]; rfl
  have h44 : (plA S v wa)[44]? = some (.int .i64 wa) := by rw [plA_get _ _ _ 44 (by omega)]; rfl
  have hmod := fun W (hW : Below w.heap.size w W) => model_any (ps := plA S v wa) h43 h44 (HWX.out W hW) (by omega)
  have hpla := fun W => placed_any W S v wa pc p0 p1
  have hldp := fun (W : World) (h : RowIs W w.heap.size 29 45 (plV S v wa)) => load_place h
  have HFA : Hid (Few ra ∧ Few rb ∧ (∀ row ∈ ra, ∀ o ∈ row, opE o many = 0) ∧ (∀ row ∈ rb, ∀ o ∈ row, opE o many = 0)) := ⟨FA, FB, wa1, wb1⟩
  obtain ⟨a1, k1, rfl, _, _⟩ := RA
  obtain ⟨a2, k2, rfl, _, _⟩ := RB
  obtain ⟨PA, hPA⟩ : ∃ PA, PA = plA S v wa := ⟨_, rfl⟩
  rw [← hPA] at P0 B0 hmod hpla hldp ⊢
  clear hPA X hz h43 h44 FA FB wa1 wb1
  generalize plS S pc = T at *
  go_enter Tryz.func34, Tryz.ntmps34
  go_upto_region 1 with fail
  generalize w.alloc (.cells PA 29) = V at *
  have HP0 : Hid (RowIs V w.heap.size 29 45 (plV S v wa)) := P0
  have HB0 : Hid (Below w.heap.size w V) := B0
  have hl0 := hldp V P0
  clear P0 B0
  go_upto_region 2 with (first | (refine wpList_loadT 29 _ (by rfl) w.heap.size _ (by rfl) (by rfl) hl0 ?_) | (go_at_call 13; refine (hpla _).mono ?_; rintro e w1 ⟨rfl, b1⟩; clear hl0) | (refine wpList_allocSt rfl rfl ?_) | (refine wpList_storeSt rfl _ _ rfl (stA zS) (stA T) rfl rfl (stA_size _) (stA_size _) (stA_one _) ?_))
  have B1 : Below w.heap.size w (w1.alloc (.cells (stA T) 26)) := (HB0.out.trans (b1.mono HB0.out.size)).alloc (by have := HB0.out.size; have := b1.size; omega) _
  have S1 : StRow (w1.alloc (.cells (stA T) 26)) w1.heap.size T := st_row w1 T
  have P1 := (HP0.out.stays b1).stays ((Below.refl _ _).alloc (Nat.le_refl _) _ : Below w1.heap.size w1 (w1.alloc (.cells (stA T) 26)))
  have hs1 : w.heap.size < w1.heap.size := by have := HP0.out.lt; have := b1.size; omega
  clear HP0 HB0 hpla b1
  generalize hW1 : w1.alloc (.cells (stA T) 26) = W1 at *
  have hz1 : W1.heap.size = w1.heap.size + 1 := by rw [← hW1]; simp
  generalize hx1 : w1.heap.size = s1 at *
  have hq1 : s1 < W1.heap.size := by omega
  clear hW1 hx1 hz1
  have lk := load_st S1.at
  go_upto_region 3 with (first | (refine wpList_loadT 26 _ (by rfl) s1 _ (by rfl) (by rfl) lk ?_) | (refine wpList_allocSt rfl rfl ?_) | (refine wpList_storeSt rfl _ _ rfl (stA zS) (stA T) rfl rfl (stA_size _) (stA_size _) (stA_one _) ?_))
  have B2 : Below w.heap.size w (W1.alloc (.cells (stA T) 26)) := B1.alloc (by omega) _
  have BB : Below W1.heap.size W1 (W1.alloc (.cells (stA T) 26)) := (Below.refl _ _).alloc (Nat.le_refl _) _
  have S12 := S1.stays BB
  have S22 : StRow (W1.alloc (.cells (stA T) 26)) W1.heap.size T := st_row W1 T
  have P2 := P1.stays BB
  clear lk S1 P1 B1 BB
  generalize hW2 : W1.alloc (.cells (stA T) 26) = W2 at *
  have hz2 : W2.heap.size = W1.heap.size + 1 := by rw [← hW2]; simp
  generalize hx2 : W1.heap.size = s2 at *
  have hq2 : s2 < W2.heap.size := by omega
  clear hW2 hx2 hz2
  have HS1 : Hid (StRow W2 s1 T) := S12
  have HS2 : Hid (StRow W2 s2 T) := S22
  have HP2 : Hid (RowIs W2 w.heap.size 29 45 (plV S v wa)) := P2
  have HB2 : Hid (Below w.heap.size w W2) := B2
  have hl2 := hldp W2 P2
  have hm2 := hmod W2 B2
  have hw2 : w.heap.size < W2.heap.size := P2.lt
  clear S12 S22 P2 B2
  go_upto_region 4 with (first | (refine wpList_loadT 29 _ (by rfl) w.heap.size _ (by rfl) (by rfl) hl2 ?_) | (go_at_call 20; refine hm2.mono ?_; rintro e w3 ⟨r1, g1, k1', h1, rfl, D1, b3, q1, q2, q3, q4⟩; clear hl2))
  have HB3 : Hid (Below w.heap.size w w3) := HB2.out.trans (b3.mono (by omega))
  have HS13 : Hid (StRow w3 s1 T) := HS1.out.stays b3
  have HS23 : Hid (StRow w3 s2 T) := HS2.out.stays b3
  have P3 := HP2.out.stays b3
  have HD1 : Hid (DMem w3 r1 g1 k1' h1 (mw xs) (fun p => decide (p = wa)) (fun _ => false)) := D1
  have hl3 := hldp w3 P3
  have hm3 := hmod w3 HB3.out
  have hs3 := b3.size
  have hd1 := D1.hlt
  clear HB2 HS1 HS2 HP2 hm2 b3 P3 D1
  go_upto_region 5 with (first | (refine wpList_loadT 29 _ (by rfl) w.heap.size _ (by rfl) (by rfl) hl3 ?_) | (go_at_call 20; refine hm3.mono ?_; rintro e w4 ⟨r2, g2, k2', h2, rfl, D2, b4, t1, t2, t3, t4⟩; clear hl3))
  have HB4 : Hid (Below w.heap.size w w4) := HB3.out.trans (b4.mono (by have := HB3.out.size; omega))
  have HS14 : Hid (StRow w4 s1 T) := HS13.out.stays b4
  have HS24 : Hid (StRow w4 s2 T) := HS23.out.stays b4
  have HD14 : Hid (DMem w4 r1 g1 k1' h1 (mw xs) (fun p => decide (p = wa)) (fun _ => false)) := HD1.out.stays b4
  have HD24 : Hid (DMem w4 r2 g2 k2' h2 (mw xs) (fun p => decide (p = wa)) (fun _ => false)) := D2
  have hs4 := b4.size
  have hd2 := D2.hlt
  have hrun1 := runS_any HD14.out s1 T HS14.out okT (by rw [ctT]; exact c0) (by rw [ctT]; exact c1) (by omega) (by omega) (HRA.out w4 HB4.out) HFA.out.1 many m0 m1 HFA.out.2.2.1
  clear HB3 HS13 HS23 HD1 hm3 b4 D2 hmod hldp
  generalize hO1 : runZ (fun p => decide (p = wa)) ra (nwX (rgS T) 34) (mw xs) = O1 at *
  generalize hO2 : runZ (fun p => decide (p = wa)) rb (nwX (rgS T) 34) (mw xs) = O2 at *
  go_wp2_with fail
  refine hrun1.mono ?_
  rintro e w5 ⟨⟨at1, fl1, rfl⟩, N1⟩
  have HB5 : Hid (Below w.heap.size w w5) := N1.below HB4.out (by omega) (by omega)
  have bk5 : ∀ k, k < w4.heap.size → k ≠ s1 → k ≠ r1 → w5.heap[k]? = w4.heap[k]? := N1.bk
  have BE : Below w5.heap.size w5 (w5.alloc (.cells #[.bool (ozT O1), .int .i64 at1, .bool fl1] 56)) := (Below.refl _ _).alloc (Nat.le_refl _) _
  have zE : (w5.alloc (.cells #[.bool (ozT O1), .int .i64 at1, .bool fl1] 56)).heap.size = w5.heap.size + 1 := World.size_alloc _ _
  have ce : (w5.alloc (.cells #[.bool (ozT O1), .int .i64 at1, .bool fl1] 56)).cell? ⟨w5.heap.size, 0, none⟩ = some (.bool (ozT O1)) := by simp
  have HS25 : StRow (w5.alloc (.cells #[.bool (ozT O1), .int .i64 at1, .bool fl1] 56)) s2 T := (HS24.out.block (bk5 s2 (by omega) (by omega) (by omega))).stays BE
  have HS15 : StRow (w5.alloc (.cells #[.bool (ozT O1), .int .i64 at1, .bool fl1] 56)) s1 (ozS T many O1) := N1.st.stays BE
  have HD25 : DMem (w5.alloc (.cells #[.bool (ozT O1), .int .i64 at1, .bool fl1] 56)) r2 g2 k2' h2 (mw xs) (fun p => decide (p = wa)) (fun _ => false) := (HD24.out.blocksP fun k hk => bk5 k (by omega) (by omega) (by omega)).stays BE
  obtain ⟨ga, ga1, ga2, ga3⟩ := N1.wd
  have gz : ga < w5.heap.size := World.block_lt_of_cell? _ _ (ga3 0 (by omega))
  have rz : r1 < w5.heap.size := World.block_lt_of_cell? _ _ ga1
  have HGA : (w5.alloc (.cells #[.bool (ozT O1), .int .i64 at1, .bool fl1] 56)).cell? ⟨r1, 0, none⟩ = some (.slice (some ⟨ga, 0, none⟩) 4096 4096) := (BE.cell (p := ⟨r1, 0, none⟩) rz).trans ga1
  have HGW : ∀ i, i < 4096 → (w5.alloc (.cells #[.bool (ozT O1), .int .i64 at1, .bool fl1] 56)).cell? ⟨ga, i, none⟩ = some (.int .u32 (ozM (mw xs) O1 i)) := fun i hi => (BE.cell (p := ⟨ga, i, none⟩) gz).trans (ga3 i hi)
  have hs5 := N1.sz
  have HBE : Below w.heap.size w (w5.alloc (.cells #[.bool (ozT O1), .int .i64 at1, .bool fl1] 56)) := HB5.out.trans (BE.mono HB5.out.size)
  clear hrun1 BE HB5 N1 ga1 ga3 HS14 HS24 HD14 HD24 HB4
  go_upto_region 6 with fail
  generalize w5.alloc (.cells #[.bool (ozT O1), .int .i64 at1, .bool fl1] 56) = w6 at *
  generalize w5.heap.size = e1 at *
  have hqE : e1 < w6.heap.size := by omega
  clear zE
  have hrun2 := runS_any HD25 s2 T HS25 okT (by rw [ctT]; exact c0) (by rw [ctT]; exact c1) (by omega) (by omega) (HRB.out w6 HBE) HFA.out.2.1 many m0 m1 HFA.out.2.2.2
  rw [hO2] at hrun2
  have HK6 : Hid (w6.cell? ⟨e1, 0, none⟩ = some (.bool (ozT O1)) ∧ StRow w6 s1 (ozS T many O1) ∧ w6.cell? ⟨r1, 0, none⟩ = some (.slice (some ⟨ga, 0, none⟩) 4096 4096) ∧ (∀ i, i < 4096 → w6.cell? ⟨ga, i, none⟩ = some (.int .u32 (ozM (mw xs) O1 i))) ∧ Below w.heap.size w w6) := ⟨ce, HS15, HGA, HGW, HBE⟩
  clear ce HS15 HGA HGW HBE HS25 HD25 hO1 hO2 bk5
  go_wp2_with fail
  refine hrun2.mono ?_
  rintro e w7 ⟨⟨at2, fl2, rfl⟩, N2⟩
  have BF : Below w7.heap.size w7 (w7.alloc (.cells #[.bool (ozT O2), .int .i64 at2, .bool fl2] 56)) := (Below.refl _ _).alloc (Nat.le_refl _) _
  have b7 : ∀ k, k < w6.heap.size → k ≠ s2 → k ≠ r2 → w7.heap[k]? = w6.heap[k]? := N2.bk
  have hs7 := N2.sz
  obtain ⟨gc, gc1, gc2, gc3⟩ := N2.wd
  have HB7 : Below w.heap.size w w7 := N2.below HK6.out.2.2.2.2 (by omega) (by omega)
  have HB8 : Hid (Below w.heap.size w (w7.alloc (.cells #[.bool (ozT O2), .int .i64 at2, .bool fl2] 56))) := HB7.trans (BF.mono HB7.size)
  have c8 : (w7.alloc (.cells #[.bool (ozT O2), .int .i64 at2, .bool fl2] 56)).cell? ⟨w7.heap.size, 0, none⟩ = some (.bool (ozT O2)) := by simp
  have k8 : ∀ k, k < w6.heap.size → k ≠ s2 → k ≠ r2 → (w7.alloc (.cells #[.bool (ozT O2), .int .i64 at2, .bool fl2] 56)).heap[k]? = w6.heap[k]? := fun k h1 h2 h3 => (BF.block k (by omega)).trans (b7 k h1 h2 h3)
  have e8 := (World.cell?_of_block (a := ⟨e1, 0, none⟩) (k8 e1 (by omega) (by omega) (by omega))).trans HK6.out.1
  have S18 : StRow (w7.alloc (.cells #[.bool (ozT O2), .int .i64 at2, .bool fl2] 56)) s1 (ozS T many O1) := HK6.out.2.1.block (k8 s1 (by omega) (by omega) (by omega))
  have S28 : StRow (w7.alloc (.cells #[.bool (ozT O2), .int .i64 at2, .bool fl2] 56)) s2 (ozS T many O2) := N2.st.stays BF
  have A8 := (World.cell?_of_block (a := ⟨r1, 0, none⟩) (k8 r1 (by omega) (by omega) (by omega))).trans HK6.out.2.2.1
  have C8 := (BF.cell (p := ⟨r2, 0, none⟩) (World.block_lt_of_cell? _ _ gc1)).trans gc1
  have WA8 : ∀ i, i < 4096 → (w7.alloc (.cells #[.bool (ozT O2), .int .i64 at2, .bool fl2] 56)).cell? ⟨ga, i, none⟩ = some (.int .u32 (ozM (mw xs) O1 i)) := fun i hi => (World.cell?_of_block (a := ⟨ga, i, none⟩) (k8 ga (by omega) (by omega) (by omega))).trans (HK6.out.2.2.2.1 i hi)
  have WC8 : ∀ i, i < 4096 → (w7.alloc (.cells #[.bool (ozT O2), .int .i64 at2, .bool fl2] 56)).cell? ⟨gc, i, none⟩ = some (.int .u32 (ozM (mw xs) O1 i)) := fun i hi => ((BF.cell (p := ⟨gc, i, none⟩) (World.block_lt_of_cell? _ _ (gc3 i hi))).trans (gc3 i hi)).trans (by rw [← HZ.out.2.2 i hi])
  have HAA : Hid (stA (ozS T many O1) = stA (ozS T many O2)) := HZ.out.2.1
  have c8 := c8.trans (show some (Value.bool (ozT O2)) = some (.bool (ozT O1)) by rw [HZ.out.1])
  have hal := alikeD_any (w := (w7.alloc (.cells #[.bool (ozT O2), .int .i64 at2, .bool fl2] 56)).drew) (n := 4096) WA8 WC8 (by omega)
  have ck : Ck7 (w7.alloc (.cells #[.bool (ozT O2), .int .i64 at2, .bool fl2] 56)).drew e1 w7.heap.size s1 s2 r1 r2 ga gc (ozT O1) (ozS T many O1) (ozS T many O2) := ⟨e8, c8, A8, C8, S18.at.drew, S28.at.drew⟩
  clear hrun2 N2 BF HB7 gc1 gc3 S18 S28 k8 b7 HK6 WA8 WC8 e8 c8 A8 C8
  go_upto_region 7 with fail
  rw [← HZ.out.1] at *
  generalize w7.alloc (.cells #[.bool (ozT O1), .int .i64 at2, .bool fl2] 56) = w8 at *
  generalize w7.heap.size = e2 at *
  clear HZ
  generalize ozS T many O1 = F1 at *
  generalize ozS T many O2 = F2 at *
  generalize ozT O1 = tr at *
  refine wp_region_phase 23 [(0, 0), (1, 1), (2, 0), (3, 1), (4, 0), (5, 0), (6, 1), (7, 1), (8, 0), (9, 0), (10, 0), (11, 0), (12, 0), (13, 0), (14, 1), (15, 0), (16, 0), (17, 0), (18, 1), (19, 2), (20, 0), (21, 0), (22, 0)] (fun W => Ck7 W e1 e2 s1 s2 r1 r2 ga gc tr F1 F2) (by kernel_rfl) (by kernel_rfl) (fun _ _ _ d _ h => by cases d <;> exact h) ck ?_
  refine wpPlanZ_free (by rfl) (by rfl) (fun W => by (go_simp; try with_reducible rfl)) (fun K hK => ?_); go_simp; refine hK _ ?_; clear hK K
  refine wpPlanZ_quiet (by rfl) (by rfl) (fun W hW => by (obtain ⟨s0, s1, s2, s3, _, _⟩ := hW; go_simp; try with_reducible rfl)) (fun K hK => ?_); go_simp; refine hK _ ?_; clear hK K
  refine wpPlanZ_free (by rfl) (by rfl) (fun W => by (go_simp; try with_reducible rfl)) (fun K hK => ?_); go_simp; refine hK _ ?_; clear hK K
  refine wpPlanZ_quiet (by rfl) (by rfl) (fun W hW => by (obtain ⟨s0, s1, s2, s3, _, _⟩ := hW; go_simp; try with_reducible rfl)) (fun K hK => ?_); go_simp; refine hK _ ?_; clear hK K
  refine wpPlanZ_free (by rfl) (by rfl) (fun W => by (go_simp; try with_reducible rfl)) (fun K hK => ?_); go_simp; refine hK _ ?_; clear hK K
  refine wpPlanZ_free (by rfl) (by rfl) (fun W => by (go_simp; try with_reducible rfl)) (fun K hK => ?_); go_simp; refine hK _ ?_; clear hK K
  refine wpPlanZ_quiet (v := .agg (stA F1)) (by rfl) (by rfl) (fun W hW => exec_load rfl rfl W (load_st hW.x)) (fun K hK => ?_)
  go_simp
  refine hK _ ?_
  clear hK K
  refine wpPlanZ_quiet (v := .agg (stA F1)) (by rfl) (by rfl) (fun W hW => exec_load rfl rfl W (by rw [HAA.out]; exact load_st hW.y)) (fun K hK => ?_)
  go_simp
  refine hK _ ?_
  clear hK K
  refine wpPlanZ_free (v := .bool true) (by rfl) (by rfl) (fun W => exec_eq rfl rfl rfl W (eq_st F1 W)) (fun K hK => ?_)
  go_simp
  refine hK _ ?_
  clear hK K
  refine wpPlanZ_free (by rfl) (by rfl) (fun W => by (go_simp; try with_reducible rfl)) (fun K hK => ?_); go_simp; refine hK _ ?_; clear hK K
  refine wpPlanZ_free (by rfl) (by rfl) (fun W => by (go_simp; try with_reducible rfl)) (fun K hK => ?_); go_simp; refine hK _ ?_; clear hK K
  refine wpPlanZ_free (by rfl) (by rfl) (fun W => by (go_simp; try with_reducible rfl)) (fun K hK => ?_); go_simp; refine hK _ ?_; clear hK K
  refine wpPlanZ_free (by rfl) (by rfl) (fun W => by (go_simp; try with_reducible rfl)) (fun K hK => ?_); go_simp; refine hK _ ?_; clear hK K
  refine wpPlanZ_free (by rfl) (by rfl) (fun W => by (go_simp; try with_reducible rfl)) (fun K hK => ?_); go_simp; refine hK _ ?_; clear hK K
  refine wpPlanZ_quiet (by rfl) (by rfl) (fun W hW => by (obtain ⟨s0, s1, s2, s3, _, _⟩ := hW; go_simp; try with_reducible rfl)) (fun K hK => ?_); go_simp; refine hK _ ?_; clear hK K
  refine wpPlanZ_free (by rfl) (by rfl) (fun W => by (go_simp; try with_reducible rfl)) (fun K hK => ?_); go_simp; refine hK _ ?_; clear hK K
  refine wpPlanZ_free (by rfl) (by rfl) (fun W => by (go_simp; try with_reducible rfl)) (fun K hK => ?_); go_simp; refine hK _ ?_; clear hK K
  refine wpPlanZ_free (by rfl) (by rfl) (fun W => by (go_simp; try with_reducible rfl)) (fun K hK => ?_); go_simp; refine hK _ ?_; clear hK K
  refine wpPlanZ_quiet (by rfl) (by rfl) (fun W hW => by (obtain ⟨s0, s1, s2, s3, _, _⟩ := hW; go_simp; try with_reducible rfl)) (fun K hK => ?_); go_simp; refine hK _ ?_; clear hK K
  refine wpPlanZ_serial (by rfl) (by rfl) (fun K hK => ?_)
  go_simp
  refine hal.mono ?_
  rintro e w9 ⟨rfl, hb9⟩
  have HB9 : Hid (Below w.heap.size w w9) := HB8.out.drew.trans (hb9.mono HB8.out.size)
  refine hK _ _ (fun _ => ck.stays hb9) ?_
  clear hK K hal hb9 ck
  refine wpPlanZ_free (by rfl) (by rfl) (fun W => by (go_simp; try with_reducible rfl)) (fun K hK => ?_); go_simp; refine hK _ ?_; clear hK K
  refine wpPlanZ_free (by rfl) (by rfl) (fun W => by (go_simp; try with_reducible rfl)) (fun K hK => ?_); go_simp; refine hK _ ?_; clear hK K
  refine wpPlanZ_free (by rfl) (by rfl) (fun W => by (go_simp; try with_reducible rfl)) (fun K hK => ?_); go_simp; refine hK _ ?_; clear hK K
  refine wpPlanZ_nil ?_
  go_wp2
  go_ret
  exact ⟨rfl, HB9.out⟩
end Go.Proofs.YtjkencgcdlfjhaaGreatDoor
