/-
  KeepDrops: the walk.
-/
import Derived.Test.YtcccaejjhodnkaaDoorKpKept
import Derived.Test.YtcccaejjhodnkaaDoorKpAsks
namespace Go.Proofs.YtcccaejjhodnkaaDoor
open Go.RowKit Go.Maps
open Num
set_option linter.unusedVariables false
theorem own_form {w : World} {base : Nat} {e : TypeId} {size n : Nat} {v : Value} {xs : List Value} (h : w.ownsRow base e size v n xs) : ∃ a c, v = .slice a n c := by
  rcases h.2 with ⟨rfl, h0⟩ | ⟨g, cap, cur, rfl, _⟩
  · exact ⟨none, 0, by rw [h0]⟩
  · exact ⟨_, _, rfl⟩
theorem hold_own {w : World} {kb base : Nat} {v : Value} {zs : List Int} (h : OwnI base w v zs) (hk : kb < base) : KHold w kb (.slice none 0 0) (fun W => IntsAt W v zs) := fun W hs hb =>
  ints_of_own (owns_blocks h fun k e => hb k (own_lt h k e).1 (fun e' => by have := (own_lt h k e).2; omega) (fun e' => by cases e'))
theorem oper_append_noneK {P : Program} {o : Oper} {a : Act} {w : World} {K : Act → World → Prop} {Q : Exit → Act → World → Prop} (s x : Operand) (t : TypeId)
    (ho : o.op = .call { callee := .builtin .append, args := #[s, x], argTypes := #[t, t] })
    (e : TypeId) (i : TypeInfo) (ht : P.underlying t = some (.slice e)) (hi : P.info? e = some i) (oa : Option Addr) (on oc : Nat) (hs : a.eval s = .slice oa on oc) (hx : a.eval x = .slice none 0 0) (hc : on ≤ oc)
    (h : K (a.put o.dst (.slice oa on oc)) w) : Oper.wp P o a w K Q := by
  have hr := run_append_none (P := P) w t o.type e i ht hi oa on oc hc
  unfold Oper.wp execOp
  simp only [ho, resolve, invoke, builtin, Sem.run_bind, Sem.run_pure, Result.andThen_ok, List.map_toArray, List.map_cons, List.map_nil, hs, hx, hr]
  exact h
theorem filt_part {α : Type} (p : α → Bool) : ∀ l : List α, (l.filter p).length + (l.filter (fun x => !p x)).length = l.length
  | [] => rfl
  | x :: r => by
    have ih := filt_part p r
    cases h : p x <;> simp [h] <;> omega
theorem own_int {w : World} {base : Nat} {a : Option Addr} {n c : Nat} {L : List Int} (h : OwnI base w (.slice a n c) L) (hp : 0 < L.length) : ∃ g, a = some ⟨g, 0, none⟩ ∧ ∀ (i : Nat) (x : Int), L[i]? = some x → w.cell? ⟨g, i, none⟩ = some (.int .i64 x) := by
  rcases h.2 with ⟨_, h0⟩ | ⟨g, cap, cur, e, _⟩
  · omega
  · injection e with e1 e2 e3
    subst e1
    refine ⟨g, rfl, fun i x hx => ?_⟩
    have := h.cells (g := g) rfl i (.int .i64 x) (by simp [hx])
    rwa [add_lit] at this
theorem mem_snoc {L : List Int} {k : Nat} {y z : Int} (h : L[k]? = some y) : decide (z ∈ L.take (k + 1)) = (decide (z ∈ L.take k) || decide (y = z)) := by
  rw [tk_snoc h, Bool.eq_iff_iff]
  simp only [decide_eq_true_eq, Bool.or_eq_true, List.mem_append, List.mem_singleton]
  constructor
  · rintro (h | h)
    · exact .inl h
    · exact .inr h.symm
  · rintro (h | h)
    · exact .inl h
    · exact .inr h.symm
/-- what the law keeps from act to act -/
structure DInv (w1 wr : World) (many : Int) (vl : Value) (l : List Kx) : Prop where
  k : KIs wr w1.heap.size many vl l
  n : (l.length : Int) ≤ many
  z : ∀ x ∈ l, x.zs.length ≤ 8
  b : Below w1.heap.size w1 wr
theorem cutK_len {many : Int} {l : List Kx} (h : (l.length : Int) ≤ many + 1) (h0 : 0 ≤ many) : ((cutK many l).length : Int) ≤ many := by
  by_cases hc : many < (l.length : Int)
  · have e : cutK many l = l.drop 1 := by unfold cutK; rw [if_pos hc]
    rw [e, List.length_drop]; omega
  · have e : cutK many l = l := by unfold cutK; rw [if_neg hc]
    rw [e]; omega
theorem cutK_mem {many : Int} {l : List Kx} {x : Kx} (h : x ∈ cutK many l) : x ∈ l := by
  unfold cutK at h
  split at h
  · exact List.mem_of_mem_drop h
  · exact h
theorem DInv.next {w1 wr w' : World} {many : Int} {vl v' : Value} {l : List Kx} {x : Kx} {pc : Int} {W : World} (D : DInv w1 wr many vl l) (hz : x.zs.length ≤ 8) (hW : Below wr.heap.size wr W) (hg : W.grownBy w' (some w1.heap.size)) (K : KIs w' w1.heap.size many v' (cutK many (l.filter (othK pc) ++ [x]))) : DInv w1 w' many v' (cutK many (l.filter (othK pc) ++ [x])) := by
  refine ⟨K, cutK_len ?_ (by have := D.n; omega), fun y hy => ?_, below_kb (D.b.trans (hW.mono D.b.size)) (Nat.le_refl _) hg (Nat.le_trans D.b.size hW.size)⟩
  · have := List.length_filter_le (othK pc) l
    have := D.n
    rw [List.length_append]
    simp; omega
  · rcases List.mem_append.1 (cutK_mem hy) with h | h
    · exact D.z y (List.mem_filter.1 h).1
    · rw [List.mem_singleton.1 h]; exact hz
/-- what a region reads -/
structure CkL (W : World) (pb : Nat) (pc : Int) (rv : Value) (ab ao : Nat) (gv : Value) : Prop where
  b0 : W.cell? ⟨pb, 0, none⟩ = some (.int .u32 pc)
  b1 : W.cell? ⟨pb, 1, none⟩ = some (.int .i64 1)
  b2 : W.cell? ⟨pb, 2, none⟩ = some rv
  g : W.cell? ⟨ab, ao, none⟩ = some gv
theorem CkL.stays {W W' : World} {pb : Nat} {pc : Int} {rv : Value} {ab ao : Nat} {gv : Value} (C : CkL W pb pc rv ab ao gv) (h : Below W.heap.size W W') : CkL W' pb pc rv ab ao gv :=
  ⟨(h.cell (p := ⟨pb, 0, none⟩) (World.block_lt_of_cell? _ _ C.b0)).trans C.b0, (h.cell (p := ⟨pb, 1, none⟩) (World.block_lt_of_cell? _ _ C.b1)).trans C.b1, (h.cell (p := ⟨pb, 2, none⟩) (World.block_lt_of_cell? _ _ C.b2)).trans C.b2, (h.cell (p := ⟨ab, ao, none⟩) (World.block_lt_of_cell? _ _ C.g)).trans C.g⟩
theorem CkL.grown {W W' : World} {pb kb : Nat} {pc : Int} {rv : Value} {ab ao : Nat} {gv : Value} (C : CkL W pb pc rv ab ao gv) (g : W.grownBy W' (some kb)) (h1 : pb ≠ kb) (h2 : ab ≠ kb) : CkL W' pb pc rv ab ao gv := by
  have e1 : W'.heap[pb]? = W.heap[pb]? := g.block pb (World.block_lt_of_cell? _ _ C.b0) (fun e => by injection e with e; exact h1 e)
  have e2 : W'.heap[ab]? = W.heap[ab]? := g.block ab (World.block_lt_of_cell? _ _ C.g) (fun e => by injection e with e; exact h2 e)
  exact ⟨(World.cell?_of_block (a := ⟨pb, 0, none⟩) e1).trans C.b0, (World.cell?_of_block (a := ⟨pb, 1, none⟩) e1).trans C.b1, (World.cell?_of_block (a := ⟨pb, 2, none⟩) e1).trans C.b2, (World.cell?_of_block (a := ⟨ab, ao, none⟩) e2).trans C.g⟩
set_option maxRecDepth 100000 in
set_option maxHeartbeats 8000000 in
theorem keepDrops_any (pe : Nat → Addr) {w : World} (E : Ep pe w) {v : Value} {al : List Ax} (A : AsksIn w v al) (hal : (al.length : Int) ≤ 9223372036854775807) (many page : Int) :
    Calls Tryd.prog 6 #[.int .i64 many, v, .int .i64 page] w fun e w' => e = .returned (.bool true) ∧ Below w.heap.size w w' := by
  obtain ⟨i0, hi, iz0, iz1, iz2⟩ := info_parts infoInt
  have hkept := kept_any pe E
  obtain ⟨ao, acap, rfl, hacap, hA⟩ := A.sh
  have HA : Hid (0 < al.length → ∃ b off : Nat, ao = some ⟨b, off, none⟩ ∧ ∀ (i : Nat) (o : Ax), al[i]? = some o → ∀ (j : Nat) (u : Value), (axC o)[j]? = some u → w.cell? ⟨b, off + i * 6 + j, none⟩ = some u) := hA
  have HOK : Hid (∀ o ∈ al, AxOk w o) := A.ok
  have HE : Hid (Ep pe w) := E
  clear A hA E
  go_enter Tryd.func6, Tryd.ntmps6
  go_wp2_with fail
  refine hkept.mono ?_
  rintro e w1 ⟨rfl, hb1⟩
  have HB1 : Hid (Below w.heap.size w w1) := hb1
  clear hkept hb1
  by_cases h60 : (60 : Int) < al.length
  · go_wp2
    go_ret
    exact ⟨rfl, HB1.out⟩
  by_cases hm1 : many < 1
  · go_wp2
    go_ret
    exact ⟨rfl, HB1.out⟩
  by_cases hm40 : 40 < many
  · go_wp2
    go_ret
    exact ⟨rfl, HB1.out⟩
  have hnew := newK_any w1 many (by omega) (by omega)
  go_wp2_with fail
  refine hnew.mono ?_
  rintro e w2 ⟨rfl, rfl⟩
  clear hnew
  have D0 : DInv w1 (w1.alloc (.cells #[.int .i64 many, .slice none 0 0] 126)) many (.slice none 0 0) [] := ⟨newK_is w1 many, (by simp; omega), (fun x hx => by cases hx), below_new _⟩
  have HD0 : Hid _ := D0
  clear D0
  generalize w1.alloc (.cells #[.int .i64 many, .slice none 0 0] 126) = w2 at *
  go_wp2
  go_loopw [10] (fun i wr => ∃ (j : Nat) (vl : Value) (l : List Kx), j ≤ al.length ∧ i = .int .i64 j ∧ DInv w1 wr many vl l) (fun i _ => al.length - (intOf i).toNat)
  case atStart => exact ⟨0, _, _, Nat.zero_le _, rfl, HD0.out⟩
  case round =>
    obtain ⟨j, vl, l, hj, rfl, D⟩ := hrel
    have hB0 : Below w.heap.size w wr := HB1.out.trans (D.b.mono HB1.out.size)
    have HB0 : Hid (Below w.heap.size w wr) := hB0
    by_cases hlt : j < al.length
    · obtain ⟨a, ha⟩ : ∃ a, al[j]? = some a := ⟨_, List.getElem?_eq_getElem hlt⟩
      obtain ⟨b, off, rfl, hcell⟩ := HA.out (by omega)
      have q1 := (hB0.cell (p := ⟨b, off + j * 6 + 1, none⟩) (World.block_lt_of_cell? _ _ (hcell j a ha 1 _ rfl))).trans (hcell j a ha 1 _ rfl)
      have q4 := (hB0.cell (p := ⟨b, off + j * 6 + 4, none⟩) (World.block_lt_of_cell? _ _ (hcell j a ha 4 _ rfl))).trans (hcell j a ha 4 _ rfl)
      have zb0 : b < w.heap.size := World.block_lt_of_cell? _ _ (hcell j a ha 1 _ rfl)
      have zb1 := HB1.out.size
      have hok := (HOK.out a (List.mem_of_getElem? ha)).stays hB0
      have zb := World.block_lt_of_cell? _ _ q1
      have hlt' : (j : Int) < al.length := by omega
      obtain ⟨ga, gcap, hge, hgc, hgn, hgi⟩ := hok.ints
      injection hge with hg1 hg2 hg3
      rw [hg1, hg2, hg3] at q4
      have hil := hok.il
      have hpc := hok.pc
      have HD : Hid (DInv w1 wr many vl l) := D
      have HGN : Hid (ga = none → a.zs = [] ∧ gcap = 0) := hgn
      have HGI : Hid (0 < a.zs.length → ∃ b off : Nat, ga = some ⟨b, off, none⟩ ∧ ∀ j, j < a.zs.length → wr.cell? ⟨b, off + j, none⟩ = some (.int .i64 (a.zs.getD j 0))) := hgi
      clear hok hcell ha hB0 D hg1 hg2 hg3 hgn hgi
      by_cases h8 : (8 : Int) < a.zs.length
      · go_wp2
        go_ret
        exact ⟨rfl, HB0.out⟩
      obtain ⟨W, hW⟩ : ∃ W, ((wr.alloc (.cells #[.string ⟨#[111, 117, 116]⟩, .int .i64 0, .int .i64 0, .int .i64 0, .int .u32 0, .int .i64 0] 60)).alloc (.cells #[.slice (some ⟨wr.heap.size, 0, none⟩) 1 1] 22)).alloc (.cells #[.int .u32 a.pc, .int .i64 1, .slice (some ⟨wr.heap.size + 1, 0, none⟩) 1 1] 73) = W := ⟨_, rfl⟩
      have hbW : Below wr.heap.size wr W := by
        rw [← hW]
        exact (((Below.refl _ _).alloc (Nat.le_refl _) _).alloc (by simp) _).alloc (by simp <;> omega) _
      have g1 : W.heap[wr.heap.size]? = some (.cells #[.string ⟨#[111, 117, 116]⟩, .int .i64 0, .int .i64 0, .int .i64 0, .int .u32 0, .int .i64 0] 60 (0, 0)) := by rw [← hW]; simp only [alloc_get, World.size_alloc]; simp <;> omega
      have g2 : W.heap[wr.heap.size + 1]? = some (.cells #[.slice (some ⟨wr.heap.size, 0, none⟩) 1 1] 22 (0, 0)) := by rw [← hW]; simp only [alloc_get, World.size_alloc]; simp <;> omega
      have g3 : W.heap[wr.heap.size + 1 + 1]? = some (.cells #[.int .u32 a.pc, .int .i64 1, .slice (some ⟨wr.heap.size + 1, 0, none⟩) 1 1] 73 (0, 0)) := by rw [← hW]; simp only [alloc_get, World.size_alloc]; simp <;> omega
      have ck0 : CkL W (wr.heap.size + 1 + 1) a.pc (.slice (some ⟨wr.heap.size + 1, 0, none⟩) 1 1) b (off + j * 6 + 4) (.slice ga a.zs.length gcap) :=
        ⟨by rw [cell_of_row _ _ _ _ _ _ g3]; rfl, by rw [cell_of_row _ _ _ _ _ _ g3]; rfl, by rw [cell_of_row _ _ _ _ _ _ g3]; rfl, (hbW.cell (p := ⟨b, off + j * 6 + 4, none⟩) zb).trans q4⟩
      have zW : wr.heap.size + 2 < W.heap.size := (Array.getElem?_eq_some_iff.1 g3).1
      have hdW : Below W.heap.size W W.drew := (Below.refl _ _).drew
      have HG12 : Hid (W.drew.heap[wr.heap.size]? = some (.cells #[.string ⟨#[111, 117, 116]⟩, .int .i64 0, .int .i64 0, .int .i64 0, .int .u32 0, .int .i64 0] 60 (0, 0)) ∧ W.drew.heap[wr.heap.size + 1]? = some (.cells #[.slice (some ⟨wr.heap.size, 0, none⟩) 1 1] 22 (0, 0))) := ⟨g1, g2⟩
      have HCK : Hid (CkL W.drew (wr.heap.size + 1 + 1) a.pc (.slice (some ⟨wr.heap.size + 1, 0, none⟩) 1 1) b (off + j * 6 + 4) (.slice ga a.zs.length gcap)) := ck0.stays hdW
      have HBW : Hid (Below wr.heap.size wr W.drew) := hbW.drew
      have hzl : a.zs.length ≤ 8 := by omega
      have hkb1 : w1.heap.size < wr.heap.size := HD.out.k.row.lt
      clear g1 g2 g3 hbW hdW ck0
      go_upto_region 14 with fail
      have HW : Hid True := trivial
      clear hW HW
      refine wp_region_phase 11 [(0, 0), (1, 1), (2, 0), (3, 0), (4, 0), (5, 0), (6, 0), (7, 1), (8, 2), (9, 2), (10, 0)] (fun W => CkL W (wr.heap.size + 1 + 1) a.pc (.slice (some ⟨wr.heap.size + 1, 0, none⟩) 1 1) b (off + j * 6 + 4) (.slice ga a.zs.length gcap)) (by kernel_rfl) (by kernel_rfl) (fun _ _ _ d _ h => by cases d <;> exact h) HCK.out ?_
      repeat (first | (refine wpPlanZ_free (by rfl) (by rfl) (fun W => by (go_simp; try with_reducible rfl)) (fun K hK => ?_); go_simp; refine hK _ ?_; clear hK K) | (refine wpPlanZ_quiet (by rfl) (by rfl) (fun W hW => by (obtain ⟨s0, s1, s2, s3⟩ := hW; go_simp; try with_reducible rfl)) (fun K hK => ?_); go_simp; refine hK _ ?_; clear hK K))
      have HP : Hid (∀ v8 w8, OwnI W.drew.heap.size w8 v8 a.zs → Below W.drew.heap.size W.drew w8 → Calls Tryd.prog 32 #[.pointer (some ⟨w1.heap.size, 0, none⟩), .agg #[.int .u32 a.pc, .int .i64 1, .slice (some ⟨wr.heap.size + 1, 0, none⟩) 1 1], v8] w8 (PutDone w8 w1.heap.size many l a.pc 1 a.zs [[outO 0]]) ∧ CkL w8 (wr.heap.size + 1 + 1) a.pc (.slice (some ⟨wr.heap.size + 1, 0, none⟩) 1 1) b (off + j * 6 + 4) (.slice ga a.zs.length gcap) ∧ Below wr.heap.size wr w8) := fun v8 w8 ho8 hb8 => by
        have hs := HBW.out.size
        have hbw8 : Below wr.heap.size wr w8 := HBW.out.trans (hb8.mono hs)
        have zWd : wr.heap.size + 2 < W.drew.heap.size := zW
        refine ⟨put_ok pe ((HE.out.stays HB0.out).stays hbw8) (HD.out.k.stays hbw8) (by have := HD.out.n; omega) ((hold_row (kb := w1.heap.size) (o := outO 0) (outO_ok 0 (by omega) (by omega)) (by omega) (by omega) ((hb8.block _ (by omega)).trans HG12.out.1) ((hb8.block _ (by omega)).trans HG12.out.2)).and (hold_own ho8 (by omega))) (few_one _) (by omega) a.pc 1 (by omega) (by omega) planF_out0, HCK.out.stays hb8, hbw8⟩
      have HQ : Hid (∀ w8 w9 e, Below wr.heap.size wr w8 → PutDone w8 w1.heap.size many l a.pc 1 a.zs [[outO 0]] e w9 → CkL w8 (wr.heap.size + 1 + 1) a.pc (.slice (some ⟨wr.heap.size + 1, 0, none⟩) 1 1) b (off + j * 6 + 4) (.slice ga a.zs.length gcap) → e = .returned .nilIface ∧ CkL w9 (wr.heap.size + 1 + 1) a.pc (.slice (some ⟨wr.heap.size + 1, 0, none⟩) 1 1) b (off + j * 6 + 4) (.slice ga a.zs.length gcap) ∧ ∃ v9 l9, DInv w1 w9 many v9 l9) := fun w8 w9 e hb8 h C => by
        obtain ⟨x, v9, he, ⟨x1, x2, x3, x4⟩, K9, G9⟩ := h
        exact ⟨he, C.grown G9 (by omega) (by omega), v9, _, HD.out.next (by rw [x3]; exact Nat.le_trans (rise_len _) hzl) hb8 G9 K9⟩
      have e8 : ∀ m : Nat, (0 : Nat) + m = m := fun m => Nat.zero_add m
      cases ga with
      | none =>
        obtain ⟨hz0, hc0⟩ := HGN.out rfl
        subst hc0
        have hP8 := HP.out (.slice none 0 0) W.drew (by rw [hz0]; exact World.ownsRow_nil _ _ _ _) (Below.refl _ _)
        have hzn : a.zs.length = 0 := by rw [hz0]; rfl
        refine wpPlanZ_serial (by rfl) (by rfl) (fun K hK => ?_)
        refine oper_append_noneK _ _ 49 rfl 3 i0 Tryd.underlying49 hi none 0 0 rfl (by show Value.slice none a.zs.length 0 = _; rw [hzn]) (Nat.le_refl _) ?_
        refine hK _ _ (fun _ => HCK.out) ?_
        clear hK K
        refine wpPlanZ_serial (by rfl) (by rfl) (fun K hK => ?_)
        go_simp
        refine hP8.1.mono ?_
        intro e w9 h9
        obtain ⟨rfl, C9, v9, l9, D9⟩ := HQ.out _ w9 e hP8.2.2 h9 hP8.2.1
        have HD9 : Hid (DInv w1 w9 many v9 l9) := D9
        refine hK _ _ (fun _ => C9) ?_
        clear hK K h9 C9 D9 hP8 HP HQ HCK HG12 HBW HD HGI HGN HB0 q1 q4
        repeat (refine wpPlanZ_free (by rfl) (by rfl) (fun W => by (go_simp; try with_reducible rfl)) (fun K hK => ?_); go_simp; refine hK _ ?_; clear hK K)
        refine wpPlanZ_nil ?_
        go_wp2
        go_roundw
        case rel => exact ⟨j + 1, v9, l9, by omega, by go_num, HD9.out⟩
        case measure => simp [intOf]; omega
      | some gad =>
        have hn : ∀ (k : Nat) (u : Value), (a.zs.map (Value.int .i64))[k]? = some u → W.drew.cell? (gad.add k) = some u := by
          intro k u hk
          have hk1 : k < a.zs.length := by have := (List.getElem?_eq_some_iff.1 hk).1; simpa using this
          obtain ⟨gb, go, e, hc⟩ := HGI.out (by omega)
          injection e with e
          subst e
          have ha : (⟨gb, go, none⟩ : Addr).add k = ⟨gb, go + k, none⟩ := by unfold Addr.add; split <;> simp_all
          rw [ha, (HBW.out.cell (p := ⟨gb, go + k, none⟩) (World.block_lt_of_cell? _ _ (hc k hk1))), hc k hk1, ← hk]
          simp [List.getD, List.getElem?_eq_getElem hk1]
        have hln : (a.zs.map (Value.int .i64)).length = a.zs.length * 1 := by simp
        have hon : ∀ u ∈ a.zs.map (Value.int .i64), u.oneCell' = true := fun u hu => by obtain ⟨y, _, rfl⟩ := List.mem_map.1 hu; rfl
        refine wpPlanZ_serial (by rfl) (by rfl) (fun K hK => ?_)
        refine oper_append_movedK _ _ 49 rfl W.drew.heap.size 3 i0 _ 1 8 Tryd.underlying49 hi iz0 iz1 iz2 rfl (by decide) (.slice none 0 0) 0 [] rfl (World.ownsRow_nil _ _ _ _) gad a.zs.length gcap (a.zs.map (Value.int .i64)) rfl hln hn hon (by unfold maxLen; omega) (by omega) (Nat.le_refl _) ?_
        intro v8 w8 ho8 hg8 hm8
        rw [Nat.zero_add, List.nil_append] at ho8
        have hb8 : Below W.drew.heap.size W.drew w8 := ⟨hg8.os, hg8.tape, hg8.output, hg8.size, fun k hk => hg8.block k hk (by intro e; cases e)⟩
        have hP8 := HP.out v8 w8 ho8 hb8
        obtain ⟨ea, ec, hv8⟩ := own_form ho8
        subst hv8
        refine hK _ _ (fun _ => hP8.2.1) ?_
        clear hK K ho8 hg8 hm8 hn hln hon
        refine wpPlanZ_serial (by rfl) (by rfl) (fun K hK => ?_)
        go_simp
        refine hP8.1.mono ?_
        intro e w9 h9
        obtain ⟨rfl, C9, v9, l9, D9⟩ := HQ.out _ w9 e hP8.2.2 h9 hP8.2.1
        have HD9 : Hid (DInv w1 w9 many v9 l9) := D9
        refine hK _ _ (fun _ => C9) ?_
        clear hK K h9 C9 D9 hP8 HP HQ HCK HG12 HBW HD HGI HGN HB0 q1 q4 hb8
        repeat (refine wpPlanZ_free (by rfl) (by rfl) (fun W => by (go_simp; try with_reducible rfl)) (fun K hK => ?_); go_simp; refine hK _ ?_; clear hK K)
        refine wpPlanZ_nil ?_
        go_wp2
        go_roundw
        case rel => exact ⟨j + 1, v9, l9, by omega, by go_num, HD9.out⟩
        case measure => simp [intOf]; omega
    · obtain rfl : j = al.length := by omega
      have K0 := D.k
      have hl40 : l.length ≤ 40 := by have := D.n; omega
      have hp1 := pcs_any K0.row (by omega)
      have HZ : Hid (∀ x ∈ l, x.zs.length ≤ 8) := D.z
      have HK0 : Hid (KIs wr w1.heap.size many vl l) := K0
      have HN : Hid ((l.length : Int) ≤ many) := D.n
      have hkw : w.heap.size ≤ w1.heap.size := HB1.out.size
      clear D K0 hB0
      go_wp2_with fail
      refine hp1.mono ?_
      rintro e wa ⟨va, rfl, hoa, hba⟩
      obtain ⟨aa, ac, hva⟩ := own_form hoa
      subst hva
      have HKa : Hid (KIs wa w1.heap.size many vl l) := HK0.out.stays hba
      have HBa : Hid (Below w.heap.size w wa) := HB0.out.trans (hba.mono HB0.out.size)
      have hp2 := pages_any HKa.out.row (fun x hx => (HKa.out.one x hx).here.1) (by omega) (fun x hx => by have := HZ.out x hx; omega)
      clear hp1 hoa hba HK0 HB0
      go_wp2_with fail
      refine hp2.mono ?_
      rintro e wb ⟨vb, rfl, hob, hbb⟩
      have HOb : Hid (OwnI wa.heap.size wb vb (rise (allPg l))) := hob
      have HKb : Hid (KIs wb w1.heap.size many vl l) := HKa.out.stays hbb
      have HBb : Hid (Below w.heap.size w wb) := HBa.out.trans (hbb.mono HBa.out.size)
      obtain ⟨ba, bc, hvb⟩ := own_form hob
      subst hvb
      have hp3 := drop_any HKb.out (by omega) (fun x hx => by have := HZ.out x hx; omega) page
      have hkwa : w1.heap.size < wa.heap.size := HKa.out.row.lt
      clear hp2 hob hbb HKa HBa
      go_wp2_with fail
      refine hp3.mono ?_
      rintro e wc ⟨vc, sv, rfl, hoc, hKc, hsv, hgc⟩
      obtain ⟨ca, cc, hvc⟩ := own_form hoc
      subst hvc
      have HKc : Hid (KIs wc w1.heap.size many sv (l.filter (fun x => !hasP page x))) := hKc
      have HBc : Hid (Below w.heap.size w wc) := below_kb HBb.out hkw hgc HBb.out.size
      have HOc : Hid (OwnI wa.heap.size wc (.slice ba (rise (allPg l)).length bc) (rise (allPg l))) := owns_blocks HOb.out fun k e => hgc.block k (own_lt HOb.out k e).1 (fun e' => by have h1 := (own_lt HOb.out k e).2; injection e' with e'; omega)
      have hl2 : (l.filter (fun x => !hasP page x)).length ≤ 40 := Nat.le_trans (List.length_filter_le _ _) hl40
      have hp4 := pcs_any hKc.row (by omega)
      clear hp3 hoc hKc hsv hgc HKb HBb HOb
      go_wp2_with fail
      refine hp4.mono ?_
      rintro e wd ⟨vd, rfl, hod, hbd⟩
      obtain ⟨da, dc, hvd⟩ := own_form hod
      subst hvd
      have HKd : Hid (KIs wd w1.heap.size many sv (l.filter (fun x => !hasP page x))) := HKc.out.stays hbd
      have HBd : Hid (Below w.heap.size w wd) := HBc.out.trans (hbd.mono HBc.out.size)
      have HOd : Hid (OwnI wa.heap.size wd (.slice ba (rise (allPg l)).length bc) (rise (allPg l))) := owns_blocks HOc.out fun k e => hbd.block k (own_lt HOc.out k e).1
      have hp5 := pages_any HKd.out.row (fun x hx => (HKd.out.one x hx).here.1) (by omega) (fun x hx => by have := HZ.out x (List.mem_filter.1 hx).1; omega)
      clear hp4 hod hbd HKc HBc HOc
      go_wp2_with fail
      refine hp5.mono ?_
      rintro e we ⟨ve, rfl, hoe, hbe⟩
      have HOe : Hid (OwnI wd.heap.size we ve (rise (allPg (l.filter (fun x => !hasP page x))))) := hoe
      have HKe : Hid (KIs we w1.heap.size many sv (l.filter (fun x => !hasP page x))) := HKd.out.stays hbe
      have HBe : Hid (Below w.heap.size w we) := HBd.out.trans (hbe.mono HBd.out.size)
      have HPe : Hid (OwnI wa.heap.size we (.slice ba (rise (allPg l)).length bc) (rise (allPg l))) := owns_blocks HOd.out fun k e => hbe.block k (own_lt HOd.out k e).1
      obtain ⟨ea, ec, hve⟩ := own_form hoe
      subst hve
      have hsum : (l.filter (hasP page)).length + (l.filter (fun x => !hasP page x)).length = l.length := by
        exact filt_part (hasP page) l
      have HSUB : Hid (∀ z ∈ rise (allPg (l.filter (fun x => !hasP page x))), z ≠ page ∧ z ∈ rise (allPg l)) := fun z hz => by
        obtain ⟨x, hx, hzx⟩ := mem_allPg.1 (mem_rise.1 hz)
        have hx2 := List.mem_filter.1 hx
        refine ⟨fun e => ?_, mem_rise.2 (mem_allPg.2 ⟨x, hx2.1, hzx⟩)⟩
        have h3 : x.zs.contains page = true := by rw [← e]; simpa using hzx
        have h4 := hx2.2
        unfold hasP at h4
        rw [h3] at h4
        cases h4
      have HDR : Hid ((l.filter (fun x => !hasP page x)).filter (hasP page) = []) := by
        show _ = _
        rw [List.filter_filter]
        apply List.filter_eq_nil_iff.2
        intro x _ hx
        simp at hx
      have hpl1 : (rise (allPg l)).length ≤ 400 := by
        have h1 := rise_len (allPg l)
        have h2 := allPg_len l 8 (fun x hx => HZ.out x hx)
        omega
      have hpl2 : (rise (allPg (l.filter (fun x => !hasP page x)))).length ≤ 400 := by
        have h1 := rise_len (allPg (l.filter (fun x => !hasP page x)))
        have h2 := allPg_len (l.filter (fun x => !hasP page x)) 8 (fun x hx => HZ.out x (List.mem_filter.1 hx).1)
        omega
      have HZ2 : Hid (∀ x ∈ l.filter (fun x => !hasP page x), x.zs.length ≤ 8) := fun x hx => HZ.out x (List.mem_filter.1 hx).1
      have hne : ((l.length : Int) != ((l.filter (hasP page)).length : Int) + ((l.filter (fun x => !hasP page x)).length : Int)) = false := by simp; omega
      have hgm : ¬ many < (l.length : Int) := by have := HN.out; omega
      clear hp5 hoe hbe HKd HBd HOd
      generalize l.filter (fun x => !hasP page x) = l2 at *
      generalize (l.filter (hasP page)).length = n1 at *
      generalize hLE : rise (allPg l2) = L2 at *
      generalize hLP : rise (allPg l) = L1 at *
      go_wp2
      go_loopw [18] (fun u18 wf => ∃ (i n : Nat), i ≤ L2.length ∧ u18 = .int .i64 i ∧ wf = we.drewN n) (fun u18 _ => L2.length - (intOf u18).toNat)
      case atStart => exact ⟨0, 0, Nat.zero_le _, rfl, rfl⟩
      case round =>
        obtain ⟨i, n, hi2, rfl, rfl⟩ := hrel
        by_cases hil : i < L2.length
        · obtain ⟨z, hz⟩ : ∃ z, L2[i]? = some z := ⟨_, List.getElem?_eq_getElem hil⟩
          obtain ⟨hzp, hz1⟩ := HSUB.out z (List.mem_of_getElem? hz)
          have hp1 : 0 < L1.length := List.length_pos_of_mem hz1
          obtain ⟨ge, rfl, hce⟩ := own_int HOe.out (by omega)
          obtain ⟨gb, rfl, hcb⟩ := own_int HPe.out hp1
          have yz := hce i z hz
          have ze := World.block_lt_of_cell? _ _ yz
          have hil' : (i : Int) < L2.length := by omega
          have hzp' : (z == page) = false := by simpa using hzp
          have HCB : Hid (∀ (i : Nat) (x : Int), L1[i]? = some x → we.cell? ⟨gb, i, none⟩ = some (.int .i64 x)) := hcb
          have HZ1 : Hid (z ∈ L1) := hz1
          clear hce hcb hz hz1 hzp
          go_wp2
          go_loopw [19, 20] (fun u19 u20 wf => ∃ (k m : Nat), k ≤ L1.length ∧ u20 = .int .i64 k ∧ u19 = .bool (decide (z ∈ L1.take k)) ∧ wf = we.drewN m) (fun _ u20 _ => L1.length - (intOf u20).toNat)
          case atStart => exact ⟨0, n, Nat.zero_le _, rfl, by simp, rfl⟩
          case round =>
            obtain ⟨k, m, hk, rfl, rfl, rfl⟩ := hrel
            by_cases hkl : k < L1.length
            · obtain ⟨y, hy⟩ : ∃ y, L1[k]? = some y := ⟨_, List.getElem?_eq_getElem hkl⟩
              have yy := HCB.out k y hy
              have zy := World.block_lt_of_cell? _ _ yy
              have hkl' : (k : Int) < L1.length := by omega
              have hms := mem_snoc (z := z) hy
              have HMS : Hid (decide (z ∈ L1.take (k + 1)) = (decide (z ∈ L1.take k) || decide (y = z))) := hms
              clear hy hms
              by_cases hyz : y = z
              · have hyz' : (y == z) = true := by simpa using hyz
                go_wp2
                go_quiet (fail)
                go_wp2
                go_roundw
                case rel => exact ⟨k + 1, m + nq, by omega, by go_num, by rw [HMS.out]; simp [hyz], by first | rfl | (rw [World.drewN_drewN]; done) | (simp; done)⟩
                case measure => simp [intOf]; omega
              · have hyz' : (y == z) = false := by simpa using hyz
                go_wp2
                go_quiet (fail)
                go_wp2
                go_roundw
                case rel => exact ⟨k + 1, m + nq, by omega, by go_num, by rw [HMS.out]; simp [hyz], by first | rfl | (rw [World.drewN_drewN]; done) | (simp; done)⟩
                case measure => simp [intOf]; omega
            · obtain rfl : k = L1.length := by omega
              have hmt : decide (z ∈ L1.take L1.length) = true := by rw [List.take_length]; simpa using HZ1.out
              rw [hmt]
              go_wp2
              go_roundw
              case rel => exact ⟨i + 1, m, by omega, by go_num, rfl⟩
              case measure => simp [intOf]; omega
        · obtain rfl : i = L2.length := by omega
          have hbn : Below we.heap.size we (we.drewN n) := kbelow_drewN (Below.refl _ _) n
          have hdr := drop_any (HKe.out.stays hbn) (by omega) (fun x hx => by have := HZ2.out x hx; omega) page
          rw [HDR.out] at hdr
          have HBn : Hid (Below w.heap.size w (we.drewN n)) := HBe.out.trans (hbn.mono HBe.out.size)
          clear hbn
          generalize we.drewN n = wn at *
          go_wp2_with fail
          refine hdr.mono ?_
          rintro e wz ⟨vz, sz, rfl, hoz, hKz, hsz, hgz⟩
          have HBz : Hid (Below w.heap.size w wz) := below_kb HBn.out hkw hgz HBn.out.size
          obtain ⟨za, zc, hvz⟩ := own_form hoz
          subst hvz
          clear hdr hoz hKz hsz hgz
          go_wp2
          go_ret
          exact ⟨rfl, HBz.out⟩
end Go.Proofs.YtcccaejjhodnkaaDoor
