/-
  The document's keep: Pages.
-/
import Derived.Test.YtcccaejjhodnkabGreatDoorKKmPure
namespace Go.Proofs.YtcccaejjhodnkabGreatDoor
open Go.RowKit Go.Maps
open Num
set_option linter.unusedVariables false
theorem own_ints_at {w : World} {base : Nat} {a : Option Addr} {n c : Nat} {L : List Int} (h : OwnI base w (.slice a n c) L) (hp : 0 < L.length) : ∃ g, a = some ⟨g, 0, none⟩ ∧ ∀ (i : Nat) (x : Int), L[i]? = some x → w.cell? ⟨g, i, none⟩ = some (.int .i64 x) := by
  rcases h.2 with ⟨_, h0⟩ | ⟨g, cap, cur, e, _⟩
  · omega
  · injection e with e1 e2 e3
    subst e1
    refine ⟨g, rfl, fun i x hx => ?_⟩
    have := h.cells (g := g) rfl i (.int .i64 x) (by simp [hx])
    rwa [add_lit] at this
theorem own_form2 {w : World} {base : Nat} {e : TypeId} {size n : Nat} {v : Value} {xs : List Value} (h : w.ownsRow base e size v n xs) : ∃ a c, v = .slice a n c ∧ n ≤ c ∧ ((a = none ∧ n = 0 ∧ c = 0) ∨ ∃ g, a = some ⟨g, 0, none⟩) := by
  rcases h.2 with ⟨rfl, h0⟩ | ⟨g, cap, cur, rfl, _, _, hc, _⟩
  · exact ⟨none, 0, by rw [h0], by omega, .inl ⟨rfl, h0, rfl⟩⟩
  · exact ⟨_, _, rfl, hc, .inr ⟨g, rfl⟩⟩
theorem insM_len (p : Int) (o : List Int) : (insM p o).length ≤ o.length + 1 := by
  unfold insM
  split
  · omega
  · simp; have := cutM_le p o; omega
theorem mpgL_len (ps : List Int) : (mpgL ps).length ≤ ps.length := by
  unfold mpgL
  have : ∀ (ps o : List Int), (ps.foldl (fun o p => insM p o) o).length ≤ o.length + ps.length := fun ps => by
    induction ps with
    | nil => intro o; simp
    | cons p r ih => intro o; rw [List.foldl_cons]; have h1 := ih (insM p o); have h2 := insM_len p o; simp; omega
  simpa using this ps []
set_option maxRecDepth 100000 in
set_option maxHeartbeats 8000000 in
theorem mpages_any {w : World} {mb : Nat} {many : Int} {v : Value} {l : List Kx} (M : MRow w mb many v l) (hl : l.length ≤ 100) (P : ∀ x ∈ l, IntsRd w (.slice x.ga x.gn x.gc) x.zs ∧ x.zs.length ≤ 100) :
    Calls Tryz.prog 22 #[.pointer (some ⟨mb, 0, none⟩)] w fun e w' => ∃ v', e = .returned v' ∧ OwnI w.heap.size w' v' (mpgL (allPg l)) ∧ Below w.heap.size w w' := by
  obtain ⟨i0, hi, iz0, iz1, iz2⟩ := info_parts infoInt
  obtain ⟨ao, cap, rfl, hc, _⟩ := M.l
  have HM : Hid (MRow w mb many (.slice ao l.length cap) l) := M
  have HP : Hid (∀ x ∈ l, IntsRd w (.slice x.ga x.gn x.gc) x.zs ∧ x.zs.length ≤ 100) := P
  have zm := M.lt
  have k0 := M.c1
  clear M P
  go_enter Tryz.func22, Tryz.ntmps22
  go_wp2
  go_loopw [3, 4] (fun ov i wr => ∃ j : Nat, j ≤ l.length ∧ i = .int .i64 j ∧ OwnI w.heap.size wr ov (mpgL (allPg (l.take j))) ∧ Below w.heap.size w wr) (fun _ i _ => l.length - (intOf i).toNat)
  case atStart => exact ⟨0, Nat.zero_le _, rfl, World.ownsRow_nil _ _ _ _, Below.refl _ _⟩
  case round =>
    obtain ⟨j, hj, rfl, ho, hB⟩ := hrel
    have MW := HM.out.stays hB
    have k1 := MW.c1
    have zk := MW.lt
    by_cases hlt : j < l.length
    · obtain ⟨x, hx⟩ : ∃ x, l[j]? = some x := ⟨_, List.getElem?_eq_getElem hlt⟩
      have hlt' : (j : Int) < l.length := by omega
      have hzl := (HP.out x (List.mem_of_getElem? hx)).2
      have HX : Hid (l[j]? = some x) := hx
      have HO : Hid (OwnI w.heap.size wr u3 (mpgL (allPg (l.take j)))) := ho
      have HB : Hid (Below w.heap.size w wr) := hB
      have HIR : Hid (IntsRd w (.slice x.ga x.gn x.gc) x.zs) := (HP.out x (List.mem_of_getElem? hx)).1
      have hpl : (mpgL (allPg (l.take j) ++ x.zs)).length ≤ 20000 ∧ ∀ k, (mpgL (allPg (l.take j) ++ x.zs.take k)).length ≤ 20000 := by
        have hb : ∀ k, (allPg (l.take j) ++ x.zs.take k).length ≤ 20000 := fun k => by
          have h1 := allPg_len (l.take j) 100 (fun y hy => (HP.out y (List.mem_of_mem_take hy)).2)
          have h2 : (l.take j).length ≤ 100 := by rw [List.length_take]; omega
          rw [List.length_append, List.length_take]; omega
        refine ⟨?_, fun k => Nat.le_trans (mpgL_len _) (hb k)⟩
        have := Nat.le_trans (mpgL_len _) (hb x.zs.length)
        rwa [List.take_length] at this
      have HPL : Hid (∀ k, (mpgL (allPg (l.take j) ++ x.zs.take k)).length ≤ 20000) := hpl.2
      clear ho hB hx MW hpl
      go_wp2
      go_loopw [3, 5] (fun ov i wr => ∃ k : Nat, k ≤ x.zs.length ∧ i = .int .i64 k ∧ OwnI w.heap.size wr ov (mpgL (allPg (l.take j) ++ x.zs.take k)) ∧ Below w.heap.size w wr) (fun _ i _ => x.zs.length - (intOf i).toNat)
      case atStart => exact ⟨0, Nat.zero_le _, rfl, by simpa using HO.out, HB.out⟩
      case round =>
        obtain ⟨k, hk, rfl, ho, hB⟩ := hrel
        clear k1 zk HO HB
        have MW := HM.out.stays hB
        have k1 := MW.c1
        have zk := MW.lt
        obtain ⟨ao2, cap2, e2, _, hh⟩ := MW.l
        injection e2 with e3 _ e4
        subst e3
        subst e4
        obtain ⟨gl, off, rfl, hgm, hcell⟩ := hh (by omega)
        obtain ⟨x0, x1, x2, x3⟩ := kept_cells (hcell j x HX.out)
        have zb := World.block_lt_of_cell? _ _ x0
        obtain ⟨ga, gcap, hge, _, _, hgi⟩ := HIR.out.stays hB
        rw [hge] at x3
        have HB2 : Hid (Below w.heap.size w wr) := hB
        clear hh hcell MW x0 x1 x2 hB
        by_cases hkl : k < x.zs.length
        · obtain ⟨p, hp⟩ : ∃ p, x.zs[k]? = some p := ⟨_, List.getElem?_eq_getElem hkl⟩
          obtain ⟨pb, po, rfl, hpc⟩ := hgi (by omega)
          have yp := hpc k hkl
          rw [show x.zs.getD k 0 = p by simp [List.getD, hp]] at yp
          have zp := World.block_lt_of_cell? _ _ yp
          have hkl' : (k : Int) < x.zs.length := by omega
          have hmp := mpgL_snoc (allPg (l.take j) ++ x.zs.take k) p
          rw [List.append_assoc, ← tk_snoc hp] at hmp
          have hOl := HPL.out k
          obtain ⟨O, hO⟩ : ∃ O, mpgL (allPg (l.take j) ++ x.zs.take k) = O := ⟨_, rfl⟩
          rw [hO] at ho hmp hOl
          have HNX : Hid (mpgL (allPg (l.take j) ++ x.zs.take (k + 1)) = insM p O) := hmp
          have HO2 : Hid (OwnI w.heap.size wr u3 O) := ho
          obtain ⟨oa, oc, hov, hoc, hof⟩ := own_form2 ho
          subst hov
          clear ho hmp hO hp hpc hgi hge
          rcases hof with ⟨rfl, hO0, rfl⟩ | ⟨g, rfl⟩
          · have hOn : O = [] := List.length_eq_zero_iff.1 hO0
            subst hOn
            have HSM : Hid (insM p [] = [p]) := rfl
            have B5 : Below wr.heap.size wr (wr.alloc (.cells #[.int .i64 p] 3)) := (Below.refl _ _).alloc (Nat.le_refl _) _
            have hn2 : ∀ (k : Nat) (u : Value), [Value.int .i64 p][k]? = some u → (wr.alloc (.cells #[.int .i64 p] 3)).cell? ((⟨wr.heap.size, 0, none⟩ : Addr).add k) = some u := by
              intro k u hk
              rw [add_lit, World.cell?_alloc_at _ _ _ _ rfl]
              simpa using hk
            have hs5 : w.heap.size ≤ (wr.alloc (.cells #[.int .i64 p] 3)).heap.size := Nat.le_trans HB2.out.size B5.size
            have HN7 : Hid (∀ v7 w7, w7.ownsRow w.heap.size 3 1 v7 (0 + 1) ([] ++ [.int .i64 p]) → (wr.alloc (.cells #[.int .i64 p] 3)).grownBy w7 (Value.slice none 0 0).ownBlock → OwnI w.heap.size w7 v7 (insM p []) ∧ Below w.heap.size w w7) := fun v7 w7 h1 h2 => by
              refine ⟨by rw [HSM.out]; exact h1, (HB2.out.trans (B5.mono HB2.out.size)).grown h2 hs5 fun k e => by cases e⟩
            clear B5
            go_wp2
            go_loop [7] (fun i => i = .int .i64 0) (fun _ => 0)
            case atStart => rfl
            case round =>
              subst hrel
              go_upto_region 14 with fail
              go_upto_region 15 with (at_builtin; refine wpList_append_none rfl _ _ 36 rfl 3 i0 Tryz.underlying36 hi none 0 0 rfl rfl (Nat.le_refl _) ?_)
              go_upto_region 16 with (at_builtin; refine wpList_append_moved rfl _ _ 36 rfl w.heap.size 3 i0 _ 1 8 Tryz.underlying36 hi iz0 iz1 iz2 rfl (by decide) (.slice none 0 0) 0 [] rfl (World.ownsRow_nil _ _ _ _) ⟨wr.heap.size, 0, none⟩ 1 1 [.int .i64 p] rfl rfl hn2 (by simp [Value.oneCell']) (by unfold maxLen; omega) (by omega) hs5 ?_; intro v7 w7 hq1 hq2 hq3; have KN : Hid _ := HN7.out v7 w7 hq1 hq2; obtain ⟨g7, c7, hv7⟩ := own_pos hq1; subst hv7; have hc7 := own_cap hq1; clear hq1 hq2 hq3 HN7 hn2 hs5 yp x3 k1)
              go_wp2_with (at_builtin; refine wpList_append_none rfl _ _ 36 rfl 3 i0 Tryz.underlying36 hi (some ⟨g7, 0, none⟩) (0 + 1) c7 rfl rfl hc7 ?_)
              go_roundw
              case rel => exact ⟨k + 1, by omega, by go_num, by rw [HNX.out]; exact KN.out.1, KN.out.2⟩
              case measure => simp [intOf]; omega
          · have HC : Hid (∀ (i : Nat) (y : Int), O[i]? = some y → wr.cell? ⟨g, i, none⟩ = some (.int .i64 y)) := fun i y hy => by
              obtain ⟨g', e, h⟩ := own_ints_at HO2.out (by have := (List.getElem?_eq_some_iff.1 hy).1; omega)
              injection e with e
              injection e with e
              subst e
              exact h i y hy
            have zg : g < wr.heap.size := (own_lt HO2.out g rfl).1
            go_wp2
            go_loop [7] (fun i => ∃ t : Nat, t ≤ O.length ∧ i = .int .i64 t ∧ Hid (∀ i y, i < t → O[i]? = some y → y < p)) (fun i => O.length - (intOf i).toNat)
            case atStart => exact ⟨0, Nat.zero_le _, rfl, (by intro i y hi; omega)⟩
            case round =>
              obtain ⟨t, ht, rfl, HLT⟩ := hrel
              by_cases htl : t < O.length
              · obtain ⟨y, hy⟩ : ∃ y, O[t]? = some y := ⟨_, List.getElem?_eq_getElem htl⟩
                have yy := HC.out t y hy
                have htl' : (t : Int) < O.length := by omega
                have HY : Hid (O[t]? = some y) := hy
                clear hy
                by_cases hyp : y < p
                · have HLT2 : Hid (∀ i z, i < t + 1 → O[i]? = some z → z < p) := by
                    intro i z hi hz
                    by_cases e : i = t
                    · subst e
                      rw [HY.out] at hz
                      obtain rfl := Option.some.inj hz
                      exact hyp
                    · exact HLT.out i z (by omega) hz
                  clear HLT
                  go_wp2
                  go_round
                  case rel => exact ⟨t + 1, by omega, by go_num, HLT2.out⟩
                  case measure => simp [intOf]; omega
                · have HGE : Hid (∀ z, O[t]? = some z → ¬ z < p) := fun z hz => by rw [HY.out] at hz; obtain rfl := Option.some.inj hz; exact hyp
                  by_cases hyq : y = p
                  · have hyq' : (y == p) = true := by simpa using hyq
                    have HSM : Hid (insM p O = O) := by
                      show _ = _
                      unfold insM
                      rw [cutM_eq (by omega) HLT.out HGE.out, if_pos (by rw [HY.out, hyq])]
                    clear HLT HGE
                    go_wp2
                    go_roundw
                    case rel => exact ⟨k + 1, by omega, by go_num, by rw [HNX.out, HSM.out]; exact HO2.out, HB2.out⟩
                    case measure => simp [intOf]; omega
                  · have hyq' : (y == p) = false := by simpa using hyq
                    have HNE : Hid (¬ O[t]? = some p) := fun e => hyq (by rw [HY.out] at e; exact Option.some.inj e)
                    go_upto_region 13 with fail
                    clear hyp hyq hyq' yy HY htl' htl
                    have hcO := own_cap HO2.out
                    have HCT : Hid (cutM p O = t) := cutM_eq (by omega) HLT.out HGE.out
                    have HNP : Hid (insM p O = O.take t ++ [p] ++ O.drop t) := by
                      show _ = _
                      unfold insM
                      rw [HCT.out, if_neg HNE.out]
                    have htc : t ≤ oc := by omega
                    have hn1 : ∀ (k : Nat) (u : Value), ((O.take t).map (Value.int .i64))[k]? = some u → wr.cell? ((⟨g, 0, none⟩ : Addr).add k) = some u := by
                      intro k u hk
                      rw [List.getElem?_map] at hk
                      obtain ⟨y, hy, rfl⟩ := Option.map_eq_some_iff.1 hk
                      rw [add_lit]
                      have hkt : k < t := by have := (List.getElem?_eq_some_iff.1 hy).1; rw [List.length_take] at this; omega
                      rw [List.getElem?_take, if_pos hkt] at hy
                      exact HC.out k y hy
                    have hl1 : ((O.take t).map (Value.int .i64)).length = t * 1 := by simp; omega
                    have ho1 : ∀ u ∈ (O.take t).map (Value.int .i64), u.oneCell' = true := fun u hu => by obtain ⟨y, _, rfl⟩ := List.mem_map.1 hu; rfl
                    have hs2 : w.heap.size ≤ wr.heap.size := HB2.out.size
                    have HBH : Hid (Below w.heap.size w wr) := HB2.out
                    go_upto_region 15 with (at_builtin; refine wpList_append_moved rfl _ _ 36 rfl w.heap.size 3 i0 _ 1 8 Tryz.underlying36 hi iz0 iz1 iz2 rfl (by decide) (.slice none 0 0) 0 [] rfl (World.ownsRow_nil _ _ _ _) ⟨g, 0, none⟩ t oc ((O.take t).map (Value.int .i64)) rfl hl1 hn1 ho1 (by unfold maxLen; omega) (by omega) hs2 ?_; intro v4 w4 hq1 hq2 hq3; rw [Nat.zero_add, List.nil_append] at hq1; have Q1 : Hid (w4.ownsRow w.heap.size 3 1 v4 t ((O.take t).map (Value.int .i64))) := hq1; have Q2 : Hid (wr.grownBy w4 none) := hq2; have Q3 : Hid (Moved wr (.slice none 0 0) v4) := hq3; obtain ⟨a4, c4, hv4, _, _⟩ := own_form2 hq1; subst hv4; clear hq1 hq2 hq3 hn1 hl1 ho1 hs2)
                    have B4 : Below wr.heap.size wr w4 := ⟨Q2.out.os, Q2.out.tape, Q2.out.output, Q2.out.size, fun k hk => Q2.out.block k hk (fun e => by cases e)⟩
                    have B5 : Below w4.heap.size w4 (w4.alloc (.cells #[.int .i64 p] 3)) := (Below.refl _ _).alloc (Nat.le_refl _) _
                    have O5 := owns_blocks Q1.out fun k e => B5.block k (own_lt Q1.out k e).1
                    have hn2 : ∀ (k : Nat) (u : Value), [Value.int .i64 p][k]? = some u → (w4.alloc (.cells #[.int .i64 p] 3)).cell? ((⟨w4.heap.size, 0, none⟩ : Addr).add k) = some u := by
                      intro k u hk
                      rw [add_lit, World.cell?_alloc_at _ _ _ _ rfl]
                      simpa using hk
                    have hs4 := B4.size
                    have hbs := HBH.out.size
                    have hs5 : w.heap.size ≤ (w4.alloc (.cells #[.int .i64 p] 3)).heap.size := by rw [World.size_alloc]; omega
                    have HB45 : Hid (Below wr.heap.size wr (w4.alloc (.cells #[.int .i64 p] 3))) := B4.trans (B5.mono hs4)
                    have HO5 : Hid ((w4.alloc (.cells #[.int .i64 p] 3)).ownsRow w.heap.size 3 1 (.slice a4 t c4) t ((O.take t).map (Value.int .i64))) := O5
                    have HVB : Hid (∀ k, (Value.slice a4 t c4).ownBlock = some k → w.heap.size ≤ k ∧ k ≠ g) := fun k e => ⟨(own_lt Q1.out k e).2, fun e' => by rcases Q3.out k e with h | h; cases h; omega⟩
                    clear Q1 Q2 Q3 B4 B5 O5
                    go_upto_region 16 with (at_builtin; refine wpList_append_moved rfl _ _ 36 rfl w.heap.size 3 i0 _ 1 8 Tryz.underlying36 hi iz0 iz1 iz2 rfl (by decide) (.slice a4 t c4) _ _ rfl HO5.out ⟨w4.heap.size, 0, none⟩ 1 1 [.int .i64 p] rfl rfl hn2 (by simp [Value.oneCell']) (by unfold maxLen; omega) (by omega) hs5 ?_; intro v6 w6 hq1 hq2 hq3; have Q1 : Hid (w6.ownsRow w.heap.size 3 1 v6 (t + 1) ((O.take t).map (Value.int .i64) ++ [.int .i64 p])) := hq1; have Q2 : Hid ((w4.alloc (.cells #[.int .i64 p] 3)).grownBy w6 (Value.slice a4 t c4).ownBlock) := hq2; obtain ⟨g6, c6, hv6⟩ := own_pos hq1; subst hv6; clear hq1 hq2 hq3 hn2 hs5)
                    have B6 : ∀ k, k < wr.heap.size → k ≠ g → True := fun _ _ _ => trivial
                    have hg6 : w6.heap[g]? = wr.heap[g]? := (Q2.out.block g (Nat.lt_of_lt_of_le zg HB45.out.size) (fun e => (HVB.out g e.symm).2 rfl)).trans (HB45.out.block g zg)
                    have hBw6 : Below w.heap.size w w6 := (HBH.out.trans (HB45.out.mono hbs)).grown Q2.out (Nat.le_trans hbs HB45.out.size) fun k e => (HVB.out k e).1
                    have HC6 : Hid (∀ (i : Nat) (y : Int), O[i]? = some y → w6.cell? ⟨g, i, none⟩ = some (.int .i64 y)) := fun i y hy => (World.cell?_of_block (a := ⟨g, i, none⟩) hg6).trans (HC.out i y hy)
                    obtain ⟨ad, had⟩ : ∃ ad : Addr, (if oc = t then some (⟨g, 0, none⟩ : Addr) else some ⟨g, t, none⟩) = some ad := by by_cases h : oc = t <;> simp [h]
                    have hn3 : ∀ (k : Nat) (u : Value), ((O.drop t).map (Value.int .i64))[k]? = some u → w6.cell? (ad.add k) = some u := by
                      intro k u hk
                      rw [List.getElem?_map] at hk
                      obtain ⟨y, hy, rfl⟩ := Option.map_eq_some_iff.1 hk
                      rw [List.getElem?_drop] at hy
                      have hlt := (List.getElem?_eq_some_iff.1 hy).1
                      rw [if_neg (by omega)] at had
                      injection had with had
                      subst had
                      have ha : (⟨g, t, none⟩ : Addr).add k = ⟨g, t + k, none⟩ := by unfold Addr.add; split <;> simp_all
                      rw [ha]
                      exact HC6.out (t + k) y hy
                    have hl3 : ((O.drop t).map (Value.int .i64)).length = (O.length - t) * 1 := by simp
                    have ho3 : ∀ u ∈ (O.drop t).map (Value.int .i64), u.oneCell' = true := fun u hu => by obtain ⟨y, _, rfl⟩ := List.mem_map.1 hu; rfl
                    have hs6 : w.heap.size ≤ w6.heap.size := hBw6.size
                    have HB6 : Hid (Below w.heap.size w w6) := hBw6
                    have HVB6 : Hid (∀ k, (Value.slice (some ⟨g6, 0, none⟩) (t + 1) c6).ownBlock = some k → w.heap.size ≤ k) := fun k e => (own_lt Q1.out k e).2
                    have HN7 : Hid (∀ v7 w7, w7.ownsRow w.heap.size 3 1 v7 (t + 1 + (O.length - t)) ((O.take t).map (Value.int .i64) ++ [.int .i64 p] ++ (O.drop t).map (Value.int .i64)) → w6.grownBy w7 (Value.slice (some ⟨g6, 0, none⟩) (t + 1) c6).ownBlock → OwnI w.heap.size w7 v7 (insM p O) ∧ Below w.heap.size w w7) := fun v7 w7 h1 h2 => by
                      refine ⟨?_, HB6.out.grown h2 hs6 HVB6.out⟩
                      show OwnI _ _ _ _
                      rw [HNP.out]
                      show World.ownsRow _ _ _ _ _ _ _
                      have e : (O.take t ++ [p] ++ O.drop t).length = t + 1 + (O.length - t) := by simp; omega
                      rw [e, List.map_append, List.map_append]; exact h1
                    have hoc3 : (t : Int) ≤ O.length := by omega
                    have hoc4 : O.length ≤ oc := hcO
                    clear B6 hg6 hBw6 HC6 HB45 HO5 HVB Q2 HC HCT HGE HLT HNE HNP HBH HB6 HVB6 yp x3 k1
                    go_wp2_with (at_builtin; refine wpList_append_moved rfl _ _ 36 rfl w.heap.size 3 i0 _ 1 8 Tryz.underlying36 hi iz0 iz1 iz2 rfl (by decide) (.slice (some ⟨g6, 0, none⟩) (t + 1) c6) _ _ rfl Q1.out ad (O.length - t) (oc - t) ((O.drop t).map (Value.int .i64)) rfl hl3 hn3 ho3 (by unfold maxLen; omega) (by omega) hs6 ?_; intro v7 w7 hq1 hq2 hq3; have KN : Hid _ := HN7.out v7 w7 hq1 hq2; clear hq1 hq2 hq3 HN7 Q1 hn3 hl3 ho3 hs6)
                    go_roundw
                    case rel => exact ⟨k + 1, by omega, by go_num, by rw [HNX.out]; exact KN.out.1, KN.out.2⟩
                    case measure => simp [intOf]; omega
              · have htl' : ¬ (t : Int) < O.length := by omega
                have HGE : Hid (∀ z, O[t]? = some z → ¬ z < p) := fun z hz => by have := (List.getElem?_eq_some_iff.1 hz).1; omega
                have HNE : Hid (¬ O[t]? = some p) := fun e => by have := (List.getElem?_eq_some_iff.1 e).1; omega
                go_upto_region 13 with fail
                clear htl' htl
                have hcO := own_cap HO2.out
                have HCT : Hid (cutM p O = t) := cutM_eq (by omega) HLT.out HGE.out
                have HNP : Hid (insM p O = O.take t ++ [p] ++ O.drop t) := by
                  show _ = _
                  unfold insM
                  rw [HCT.out, if_neg HNE.out]
                have htc : t ≤ oc := by omega
                have hn1 : ∀ (k : Nat) (u : Value), ((O.take t).map (Value.int .i64))[k]? = some u → wr.cell? ((⟨g, 0, none⟩ : Addr).add k) = some u := by
                  intro k u hk
                  rw [List.getElem?_map] at hk
                  obtain ⟨y, hy, rfl⟩ := Option.map_eq_some_iff.1 hk
                  rw [add_lit]
                  have hkt : k < t := by have := (List.getElem?_eq_some_iff.1 hy).1; rw [List.length_take] at this; omega
                  rw [List.getElem?_take, if_pos hkt] at hy
                  exact HC.out k y hy
                have hl1 : ((O.take t).map (Value.int .i64)).length = t * 1 := by simp; omega
                have ho1 : ∀ u ∈ (O.take t).map (Value.int .i64), u.oneCell' = true := fun u hu => by obtain ⟨y, _, rfl⟩ := List.mem_map.1 hu; rfl
                have hs2 : w.heap.size ≤ wr.heap.size := HB2.out.size
                have HBH : Hid (Below w.heap.size w wr) := HB2.out
                go_upto_region 15 with (at_builtin; refine wpList_append_moved rfl _ _ 36 rfl w.heap.size 3 i0 _ 1 8 Tryz.underlying36 hi iz0 iz1 iz2 rfl (by decide) (.slice none 0 0) 0 [] rfl (World.ownsRow_nil _ _ _ _) ⟨g, 0, none⟩ t oc ((O.take t).map (Value.int .i64)) rfl hl1 hn1 ho1 (by unfold maxLen; omega) (by omega) hs2 ?_; intro v4 w4 hq1 hq2 hq3; rw [Nat.zero_add, List.nil_append] at hq1; have Q1 : Hid (w4.ownsRow w.heap.size 3 1 v4 t ((O.take t).map (Value.int .i64))) := hq1; have Q2 : Hid (wr.grownBy w4 none) := hq2; have Q3 : Hid (Moved wr (.slice none 0 0) v4) := hq3; obtain ⟨a4, c4, hv4, _, _⟩ := own_form2 hq1; subst hv4; clear hq1 hq2 hq3 hn1 hl1 ho1 hs2)
                have B4 : Below wr.heap.size wr w4 := ⟨Q2.out.os, Q2.out.tape, Q2.out.output, Q2.out.size, fun k hk => Q2.out.block k hk (fun e => by cases e)⟩
                have B5 : Below w4.heap.size w4 (w4.alloc (.cells #[.int .i64 p] 3)) := (Below.refl _ _).alloc (Nat.le_refl _) _
                have O5 := owns_blocks Q1.out fun k e => B5.block k (own_lt Q1.out k e).1
                have hn2 : ∀ (k : Nat) (u : Value), [Value.int .i64 p][k]? = some u → (w4.alloc (.cells #[.int .i64 p] 3)).cell? ((⟨w4.heap.size, 0, none⟩ : Addr).add k) = some u := by
                  intro k u hk
                  rw [add_lit, World.cell?_alloc_at _ _ _ _ rfl]
                  simpa using hk
                have hs4 := B4.size
                have hbs := HBH.out.size
                have hs5 : w.heap.size ≤ (w4.alloc (.cells #[.int .i64 p] 3)).heap.size := by rw [World.size_alloc]; omega
                have HB45 : Hid (Below wr.heap.size wr (w4.alloc (.cells #[.int .i64 p] 3))) := B4.trans (B5.mono hs4)
                have HO5 : Hid ((w4.alloc (.cells #[.int .i64 p] 3)).ownsRow w.heap.size 3 1 (.slice a4 t c4) t ((O.take t).map (Value.int .i64))) := O5
                have HVB : Hid (∀ k, (Value.slice a4 t c4).ownBlock = some k → w.heap.size ≤ k ∧ k ≠ g) := fun k e => ⟨(own_lt Q1.out k e).2, fun e' => by rcases Q3.out k e with h | h; cases h; omega⟩
                clear Q1 Q2 Q3 B4 B5 O5
                go_upto_region 16 with (at_builtin; refine wpList_append_moved rfl _ _ 36 rfl w.heap.size 3 i0 _ 1 8 Tryz.underlying36 hi iz0 iz1 iz2 rfl (by decide) (.slice a4 t c4) _ _ rfl HO5.out ⟨w4.heap.size, 0, none⟩ 1 1 [.int .i64 p] rfl rfl hn2 (by simp [Value.oneCell']) (by unfold maxLen; omega) (by omega) hs5 ?_; intro v6 w6 hq1 hq2 hq3; have Q1 : Hid (w6.ownsRow w.heap.size 3 1 v6 (t + 1) ((O.take t).map (Value.int .i64) ++ [.int .i64 p])) := hq1; have Q2 : Hid ((w4.alloc (.cells #[.int .i64 p] 3)).grownBy w6 (Value.slice a4 t c4).ownBlock) := hq2; obtain ⟨g6, c6, hv6⟩ := own_pos hq1; subst hv6; clear hq1 hq2 hq3 hn2 hs5)
                have B6 : ∀ k, k < wr.heap.size → k ≠ g → True := fun _ _ _ => trivial
                have hg6 : w6.heap[g]? = wr.heap[g]? := (Q2.out.block g (Nat.lt_of_lt_of_le zg HB45.out.size) (fun e => (HVB.out g e.symm).2 rfl)).trans (HB45.out.block g zg)
                have hBw6 : Below w.heap.size w w6 := (HBH.out.trans (HB45.out.mono hbs)).grown Q2.out (Nat.le_trans hbs HB45.out.size) fun k e => (HVB.out k e).1
                have HC6 : Hid (∀ (i : Nat) (y : Int), O[i]? = some y → w6.cell? ⟨g, i, none⟩ = some (.int .i64 y)) := fun i y hy => (World.cell?_of_block (a := ⟨g, i, none⟩) hg6).trans (HC.out i y hy)
                obtain ⟨ad, had⟩ : ∃ ad : Addr, (if oc = t then some (⟨g, 0, none⟩ : Addr) else some ⟨g, t, none⟩) = some ad := by by_cases h : oc = t <;> simp [h]
                have hn3 : ∀ (k : Nat) (u : Value), ((O.drop t).map (Value.int .i64))[k]? = some u → w6.cell? (ad.add k) = some u := by
                  intro k u hk
                  rw [List.getElem?_map] at hk
                  obtain ⟨y, hy, rfl⟩ := Option.map_eq_some_iff.1 hk
                  rw [List.getElem?_drop] at hy
                  have hlt := (List.getElem?_eq_some_iff.1 hy).1
                  rw [if_neg (by omega)] at had
                  injection had with had
                  subst had
                  have ha : (⟨g, t, none⟩ : Addr).add k = ⟨g, t + k, none⟩ := by unfold Addr.add; split <;> simp_all
                  rw [ha]
                  exact HC6.out (t + k) y hy
                have hl3 : ((O.drop t).map (Value.int .i64)).length = (O.length - t) * 1 := by simp
                have ho3 : ∀ u ∈ (O.drop t).map (Value.int .i64), u.oneCell' = true := fun u hu => by obtain ⟨y, _, rfl⟩ := List.mem_map.1 hu; rfl
                have hs6 : w.heap.size ≤ w6.heap.size := hBw6.size
                have HB6 : Hid (Below w.heap.size w w6) := hBw6
                have HVB6 : Hid (∀ k, (Value.slice (some ⟨g6, 0, none⟩) (t + 1) c6).ownBlock = some k → w.heap.size ≤ k) := fun k e => (own_lt Q1.out k e).2
                have HN7 : Hid (∀ v7 w7, w7.ownsRow w.heap.size 3 1 v7 (t + 1 + (O.length - t)) ((O.take t).map (Value.int .i64) ++ [.int .i64 p] ++ (O.drop t).map (Value.int .i64)) → w6.grownBy w7 (Value.slice (some ⟨g6, 0, none⟩) (t + 1) c6).ownBlock → OwnI w.heap.size w7 v7 (insM p O) ∧ Below w.heap.size w w7) := fun v7 w7 h1 h2 => by
                  refine ⟨?_, HB6.out.grown h2 hs6 HVB6.out⟩
                  show OwnI _ _ _ _
                  rw [HNP.out]
                  show World.ownsRow _ _ _ _ _ _ _
                  have e : (O.take t ++ [p] ++ O.drop t).length = t + 1 + (O.length - t) := by simp; omega
                  rw [e, List.map_append, List.map_append]; exact h1
                have hoc3 : (t : Int) ≤ O.length := by omega
                have hoc4 : O.length ≤ oc := hcO
                clear B6 hg6 hBw6 HC6 HB45 HO5 HVB Q2 HC HCT HGE HLT HNE HNP HBH HB6 HVB6 yp x3 k1
                go_wp2_with (at_builtin; refine wpList_append_moved rfl _ _ 36 rfl w.heap.size 3 i0 _ 1 8 Tryz.underlying36 hi iz0 iz1 iz2 rfl (by decide) (.slice (some ⟨g6, 0, none⟩) (t + 1) c6) _ _ rfl Q1.out ad (O.length - t) (oc - t) ((O.drop t).map (Value.int .i64)) rfl hl3 hn3 ho3 (by unfold maxLen; omega) (by omega) hs6 ?_; intro v7 w7 hq1 hq2 hq3; have KN : Hid _ := HN7.out v7 w7 hq1 hq2; clear hq1 hq2 hq3 HN7 Q1 hn3 hl3 ho3 hs6)
                go_roundw
                case rel => exact ⟨k + 1, by omega, by go_num, by rw [HNX.out]; exact KN.out.1, KN.out.2⟩
                case measure => simp [intOf]; omega
        · obtain rfl : k = x.zs.length := by omega
          have HF : Hid (OwnI w.heap.size wr u3 (mpgL (allPg (l.take (j + 1))))) := by
            show OwnI _ _ _ _
            have e : allPg (l.take (j + 1)) = allPg (l.take j) ++ x.zs := allPg_snoc HX.out
            rw [e]; have := ho; rwa [List.take_length] at this
          clear ho hgi hge
          go_wp2
          go_roundw
          case rel => exact ⟨j + 1, by omega, by go_num, HF.out, HB2.out⟩
          case measure => simp [intOf]; omega
    · obtain rfl : j = l.length := by omega
      have HF : Hid (OwnI w.heap.size wr u3 (mpgL (allPg l))) := by show OwnI _ _ _ _; have := ho; rwa [List.take_length] at this
      have HB : Hid (Below w.heap.size w wr) := hB
      clear ho hB MW
      go_wp2
      go_ret
      exact ⟨_, rfl, HF.out, HB.out⟩
end Go.Proofs.YtcccaejjhodnkabGreatDoor
