/-
  The document's keep: Drop.
-/
import Derived.Test.YtcccaejjhodnkabGreatDoorKIrChk3
import Derived.Test.YtcccaejjhodnkabGreatDoorQKmPut
import Derived.Test.YtcccaejjhodnkabGreatDoorKKpGet
namespace Go.Proofs.YtcccaejjhodnkabGreatDoor
open Go.RowKit Go.Maps
open Num
set_option linter.unusedVariables false
theorem pcL_snoc (l : List Kx) (x : Kx) : pcL (l ++ [x]) = pcL l ++ [.int .u32 x.pc] := by unfold pcL; simp
structure TkD (w wr : World) (p : Kx → Bool) (l : List Kx) (j : Nat) (lv ov : Value) : Prop where
  s : wr.ownsRow w.heap.size 51 4 lv ((l.take j).filter (fun x => !p x)).length (kL ((l.take j).filter (fun x => !p x)))
  o : wr.ownsRow w.heap.size 34 1 ov ((l.take j).filter p).length (pcL ((l.take j).filter p))
  ap : ∀ k, lv.ownBlock = some k → ov.ownBlock ≠ some k
  b : Below w.heap.size w wr
theorem TkD.stays {w wr w' : World} {p : Kx → Bool} {l : List Kx} {j : Nat} {lv ov : Value} (T : TkD w wr p l j lv ov) (h : Below wr.heap.size wr w') : TkD w w' p l j lv ov :=
  ⟨owns_blocks T.s fun k e => h.block k (own_lt T.s k e).1, owns_blocks T.o fun k e => h.block k (own_lt T.o k e).1, T.ap, T.b.trans (h.mono T.b.size)⟩
theorem TkD.gone {w wr w' : World} {p : Kx → Bool} {l : List Kx} {j : Nat} {lv ov ov' : Value} {x : Kx} (T : TkD w wr p l j lv ov) (hx : l[j]? = some x) (hp : p x = true) (ho : w'.ownsRow w.heap.size 34 1 ov' (((l.take j).filter p).length + 1) (pcL ((l.take j).filter p) ++ [.int .u32 x.pc])) (hg : wr.grownBy w' ov.ownBlock) (hm : Moved wr ov ov') : TkD w w' p l (j + 1) lv ov' := by
  have e1 := filt_snoc p hx
  have e2 := filt_snoc (fun x => !p x) hx
  simp only [hp, if_true, Bool.not_true, Bool.false_eq_true, if_false, List.append_nil] at e1 e2
  refine ⟨?_, ?_, fun k hs ht => ?_, T.b.grown hg T.b.size fun k e => (own_lt T.o k e).2⟩
  · rw [e2]; exact owns_blocks T.s fun k e => hg.block k (own_lt T.s k e).1 (fun h => T.ap k e h.symm)
  · rw [e1, pcL_snoc, List.length_append]; exact ho
  · rcases hm k ht with h | h
    · exact T.ap k hs h
    · have := (own_lt T.s k hs).1; omega
theorem TkD.stay {w wr w' : World} {p : Kx → Bool} {l : List Kx} {j : Nat} {lv ov lv' : Value} {x : Kx} (T : TkD w wr p l j lv ov) (hx : l[j]? = some x) (hp : p x = false) (ho : w'.ownsRow w.heap.size 51 4 lv' (((l.take j).filter (fun x => !p x)).length + 1) (kL ((l.take j).filter (fun x => !p x)) ++ kC x)) (hg : wr.grownBy w' lv.ownBlock) (hm : Moved wr lv lv') : TkD w w' p l (j + 1) lv' ov := by
  have e1 := filt_snoc p hx
  have e2 := filt_snoc (fun x => !p x) hx
  simp only [hp, if_true, Bool.not_false, Bool.false_eq_true, if_false, List.append_nil] at e1 e2
  refine ⟨?_, ?_, fun k hs ht => ?_, T.b.grown hg T.b.size fun k e => (own_lt T.s k e).2⟩
  · rw [e2, kL_snoc, List.length_append]; exact ho
  · rw [e1]; exact owns_blocks T.o fun k e => hg.block k (own_lt T.o k e).1 (fun h => T.ap k h.symm e)
  · rcases hm k hs with h | h
    · exact T.ap k h ht
    · have := (own_lt T.o k ht).1; omega
theorem mem_snocK {L : List Int} {k : Nat} {y z : Int} (h : L[k]? = some y) : decide (z ∈ L.take (k + 1)) = (decide (z ∈ L.take k) || decide (y = z)) := by
  rw [tk_snoc h, Bool.eq_iff_iff]
  simp only [decide_eq_true_eq, Bool.or_eq_true, List.mem_append, List.mem_singleton]
  constructor
  · rintro (h | h)
    · exact .inl h
    · exact .inr h.symm
  · rintro (h | h)
    · exact .inl h
    · exact .inr h.symm
set_option maxRecDepth 100000 in
set_option maxHeartbeats 8000000 in
theorem mdrop_any {w : World} {mb : Nat} {many : Int} {v : Value} {l : List Kx} (M : MRow w mb many v l) (hl : l.length ≤ 900) (P : ∀ x ∈ l, IntsRd w (.slice x.ga x.gn x.gc) x.zs ∧ x.zs.length ≤ 1000) (page : Int) :
    Calls Tryz.prog 18 #[.pointer (some ⟨mb, 0, none⟩), .int .i64 page] w fun e w' => ∃ v', e = .returned v' ∧ w'.ownsRow w.heap.size 34 1 v' (l.filter (hasP page)).length (pcL (l.filter (hasP page))) ∧ (∃ v2, MRow w' mb many v2 (l.filter (fun x => !hasP page x)) ∧ ∀ k, v2.ownBlock = some k → w.heap.size ≤ k) ∧ w.grownBy w' (some mb) := by
  obtain ⟨i0, hi, iz0, iz1, iz2⟩ := info_parts infoKeptM
  obtain ⟨j0, hj0, jz0, jz1, jz2⟩ := info_parts infoU32
  obtain ⟨ao, cap, rfl, hc, _⟩ := M.l
  have HM : Hid (MRow w mb many (.slice ao l.length cap) l) := M
  have HP : Hid (∀ x ∈ l, IntsRd w (.slice x.ga x.gn x.gc) x.zs ∧ x.zs.length ≤ 1000) := P
  have zm := M.lt
  have k0 := M.c1
  clear M P
  go_enter Tryz.func18, Tryz.ntmps18
  go_wp2
  go_loopw [5, 6, 7] (fun lv ov i wr => ∃ j : Nat, j ≤ l.length ∧ i = .int .i64 j ∧ TkD w wr (hasP page) l j lv ov) (fun _ _ i _ => l.length - (intOf i).toNat)
  case atStart => exact ⟨0, Nat.zero_le _, rfl, ⟨World.ownsRow_nil _ _ _ _, World.ownsRow_nil _ _ _ _, (fun k h => by cases h), Below.refl _ _⟩⟩
  case round =>
    obtain ⟨j, hj, rfl, T⟩ := hrel
    have MW := HM.out.stays T.b
    have k1 := MW.c1
    have zk := MW.lt
    have hs5 := T.b.size
    by_cases hlt : j < l.length
    · obtain ⟨x, hx⟩ : ∃ x, l[j]? = some x := ⟨_, List.getElem?_eq_getElem hlt⟩
      obtain ⟨ao2, cap2, e2, _, hh⟩ := MW.l
      injection e2 with e3 _ e4
      subst e3
      subst e4
      obtain ⟨g, off, rfl, hgm, hcell⟩ := hh (by omega)
      obtain ⟨x0, x1, x2, x3⟩ := kept_cells (hcell j x hx)
      have zb := World.block_lt_of_cell? _ _ x0
      have hlt' : (j : Int) < l.length := by omega
      have hIr := (HP.out x (List.mem_of_getElem? hx)).1.stays T.b
      have hzl := (HP.out x (List.mem_of_getElem? hx)).2
      obtain ⟨ga, gcap, hge, _, _, hgi⟩ := hIr
      have HX : Hid (l[j]? = some x) := hx
      have HT : Hid (TkD w wr (hasP page) l j u5 u6) := T
      have HGI : Hid (0 < x.zs.length → ∃ b off : Nat, ga = some ⟨b, off, none⟩ ∧ ∀ j, j < x.zs.length → wr.cell? ⟨b, off + j, none⟩ = some (.int .i64 (x.zs.getD j 0))) := hgi
      have x3' := x3
      rw [hge] at x3'
      have HGE : Hid (Value.slice x.ga x.gn x.gc = .slice ga x.zs.length gcap) := hge
      have HX3 : Hid (wr.cell? ⟨g, off + j * 4 + 3, none⟩ = some (.slice x.ga x.gn x.gc)) := x3
      clear T hh hcell hx hgi hge x3 MW
      go_wp2
      go_loop [8, 9] (fun h i => ∃ k : Nat, k ≤ x.zs.length ∧ i = .int .i64 k ∧ h = .bool (decide (page ∈ x.zs.take k))) (fun _ i => x.zs.length - (intOf i).toNat)
      case atStart => exact ⟨0, Nat.zero_le _, rfl, by simp⟩
      case round =>
        obtain ⟨k, hk, rfl, rfl⟩ := hrel
        by_cases hkl : k < x.zs.length
        · obtain ⟨y, hy⟩ : ∃ y, x.zs[k]? = some y := ⟨_, List.getElem?_eq_getElem hkl⟩
          obtain ⟨pb, po, rfl, hpc⟩ := HGI.out (by omega)
          have yy := hpc k hkl
          rw [show x.zs.getD k 0 = y by simp [List.getD, hy]] at yy
          have zy := World.block_lt_of_cell? _ _ yy
          have hkl' : (k : Int) < x.zs.length := by omega
          have HMS : Hid (decide (page ∈ x.zs.take (k + 1)) = (decide (page ∈ x.zs.take k) || decide (y = page))) := mem_snocK hy
          clear hpc hy
          by_cases hyp : y = page
          · have hyp' : (y == page) = true := by simpa using hyp
            go_wp2
            go_round
            case rel => exact ⟨k + 1, by omega, by go_num, by rw [HMS.out]; simp [hyp]⟩
            case measure => simp [intOf]; omega
          · have hyp' : (y == page) = false := by simpa using hyp
            go_wp2
            go_round
            case rel => exact ⟨k + 1, by omega, by go_num, by rw [HMS.out]; simp [hyp]⟩
            case measure => simp [intOf]; omega
        · obtain rfl : k = x.zs.length := by omega
          rw [List.take_length]
          have hpe : decide (page ∈ x.zs) = hasP page x := by unfold hasP; rw [Bool.eq_iff_iff]; simp
          rw [hpe]
          have hn1 : ((l.take j).filter (hasP page)).length ≤ 900 := Nat.le_trans (List.length_filter_le _ _) (by rw [List.length_take]; omega)
          have hn2 : ((l.take j).filter (fun x => !hasP page x)).length ≤ 900 := Nat.le_trans (List.length_filter_le _ _) (by rw [List.length_take]; omega)
          generalize hP : hasP page x = pb at *
          go_upto_region 12 with fail
          have x3 := HX3.out
          clear x3'
          cases pb
          · have hbA : Below wr.heap.size wr (wr.alloc (.cells #[.int .u32 x.pc, .int .i64 x.many, .slice x.ra x.rn x.rc, .slice x.ga x.gn x.gc] 51)) := (Below.refl _ _).alloc (Nat.le_refl _) _
            have T2 := HT.out.stays hbA
            have hn := kept_news wr x
            have hone := kC_one x
            have hs2 : w.heap.size ≤ (wr.alloc (.cells #[.int .u32 x.pc, .int .i64 x.many, .slice x.ra x.rn x.rc, .slice x.ga x.gn x.gc] 51)).heap.size := T2.b.size
            have HT2 : Hid (TkD w (wr.alloc (.cells #[.int .u32 x.pc, .int .i64 x.many, .slice x.ra x.rn x.rc, .slice x.ga x.gn x.gc] 51)) (hasP page) l j u5 u6) := T2
            clear T2 hbA HT
            go_wp2_with (at_builtin; refine wpList_append_moved rfl _ _ 31 rfl w.heap.size 51 i0 _ 4 64 Tryz.underlying31 hi iz0 iz1 iz2 rfl (by decide) u5 _ _ rfl HT2.out.s ⟨wr.heap.size, 0, none⟩ 1 1 (kC x) rfl rfl hn hone (by unfold maxLen; omega) (by omega) hs2 ?_; intro v1 w2 ho1 hg1 hm1; have HN : Hid (TkD w w2 (hasP page) l (j + 1) v1 u6) := HT2.out.stay HX.out hP ho1 hg1 hm1; clear ho1 hg1 hm1 HT2 hn hone hs2)
            go_roundw
            case rel => exact ⟨j + 1, by omega, by go_num, HN.out⟩
            case measure => simp [intOf]; omega
          · have hbA : Below wr.heap.size wr (wr.alloc (.cells #[.int .u32 x.pc] 34)) := (Below.refl _ _).alloc (Nat.le_refl _) _
            have T2 := HT.out.stays hbA
            have hn : ∀ (k : Nat) (u : Value), [Value.int .u32 x.pc][k]? = some u → (wr.alloc (.cells #[.int .u32 x.pc] 34)).cell? ((⟨wr.heap.size, 0, none⟩ : Addr).add k) = some u := by
              intro k u hk
              rw [add_lit, World.cell?_alloc_at _ _ _ _ rfl]
              simpa using hk
            have hs2 : w.heap.size ≤ (wr.alloc (.cells #[.int .u32 x.pc] 34)).heap.size := T2.b.size
            have HT2 : Hid (TkD w (wr.alloc (.cells #[.int .u32 x.pc] 34)) (hasP page) l j u5 u6) := T2
            clear T2 hbA HT
            go_wp2_with (at_builtin; refine wpList_append_moved rfl _ _ 57 rfl w.heap.size 34 j0 _ 1 4 Tryz.underlying57 hj0 jz0 jz1 jz2 rfl (by decide) u6 _ _ rfl HT2.out.o ⟨wr.heap.size, 0, none⟩ 1 1 [.int .u32 x.pc] rfl rfl hn (by simp [Value.oneCell']) (by unfold maxLen; omega) (by omega) hs2 ?_; intro v1 w2 ho1 hg1 hm1; have HN : Hid (TkD w w2 (hasP page) l (j + 1) u5 v1) := HT2.out.gone HX.out hP ho1 hg1 hm1; clear ho1 hg1 hm1 HT2 hn hs2)
            go_roundw
            case rel => exact ⟨j + 1, by omega, by go_num, HN.out⟩
            case measure => simp [intOf]; omega
    · obtain rfl : j = l.length := by omega
      have t := T.s
      have o := T.o
      rw [List.take_length] at t o
      obtain ⟨sa, sn, sc, hsv⟩ := own_slice t
      subst hsv
      have f1 := MW.fz 1
      have HF : Hid ((wr.setCell ⟨mb, 1, none⟩ (.slice sa sn sc)).ownsRow w.heap.size 34 1 u6 (l.filter (hasP page)).length (pcL (l.filter (hasP page))) ∧ (∃ v2, MRow (wr.setCell ⟨mb, 1, none⟩ (.slice sa sn sc)) mb many v2 (l.filter (fun x => !hasP page x)) ∧ ∀ k, v2.ownBlock = some k → w.heap.size ≤ k) ∧ w.grownBy (wr.setCell ⟨mb, 1, none⟩ (.slice sa sn sc)) (some mb)) := by
        refine ⟨owns_blocks o fun k e => Below.heap_setCell _ _ _ _ (by intro e'; have e2 : k = mb := e'; have := (own_lt o k e).2; omega), ⟨_, MRow.mk2 MW.st (kept_of_own t (by omega)) (fun e => by have := (own_lt t mb e).2; omega), fun k e => (own_lt t k e).2⟩, grown_put T.b⟩
      clear T MW t o
      go_wp2
      go_ret
      exact ⟨_, rfl, HF.out⟩
end Go.Proofs.YtcccaejjhodnkabGreatDoor
