/-
  Package keep: take, with the two that ask.
-/
import Derived.Test.YtcccaejjhodnkabGreatDoorKPure
import Derived.Test.YtcccaejjhodnkabGreatDoorKOptPure
import Derived.Test.YtcccaejjhodnkabGreatDoorKSerial
namespace Go.Proofs.YtcccaejjhodnkabGreatDoor
open Go.RowKit
open Num
set_option linter.unusedVariables false
theorem tk_snoc {α : Type} {l : List α} {j : Nat} {o : α} (h : l[j]? = some o) : l.take (j + 1) = l.take j ++ [o] := by
  rw [List.take_add_one, h]; rfl
theorem filt_snoc {α : Type} {l : List α} {j : Nat} {x : α} (p : α → Bool) (h : l[j]? = some x) : (l.take (j + 1)).filter p = (l.take j).filter p ++ if p x then [x] else [] := by
  rw [tk_snoc h, List.filter_append]
  cases hp : p x <;> simp [hp]
/-- a row of what is kept, made of its first ones -/
structure Tk (w wr : World) (p : Kx → Bool) (l : List Kx) (j : Nat) (tv sv : Value) : Prop where
  t : wr.ownsRow w.heap.size 81 4 tv ((l.take j).filter p).length (kL ((l.take j).filter p))
  s : wr.ownsRow w.heap.size 81 4 sv ((l.take j).filter (fun x => !p x)).length (kL ((l.take j).filter (fun x => !p x)))
  ap : ∀ k, sv.ownBlock = some k → tv.ownBlock ≠ some k
  b : Below w.heap.size w wr
theorem Tk.stays {w wr w' : World} {p : Kx → Bool} {l : List Kx} {j : Nat} {tv sv : Value} (T : Tk w wr p l j tv sv) (h : Below wr.heap.size wr w') : Tk w w' p l j tv sv :=
  ⟨owns_blocks T.t fun k e => h.block k (own_lt T.t k e).1, owns_blocks T.s fun k e => h.block k (own_lt T.s k e).1, T.ap, T.b.trans (h.mono T.b.size)⟩
theorem Tk.taken {w wr w' : World} {p : Kx → Bool} {l : List Kx} {j : Nat} {tv sv tv' : Value} {x : Kx} (T : Tk w wr p l j tv sv) (hx : l[j]? = some x) (hp : p x = true) (ho : w'.ownsRow w.heap.size 81 4 tv' (((l.take j).filter p).length + 1) (kL ((l.take j).filter p) ++ kC x)) (hg : wr.grownBy w' tv.ownBlock) (hm : Moved wr tv tv') : Tk w w' p l (j + 1) tv' sv := by
  have e1 := filt_snoc p hx
  have e2 := filt_snoc (fun x => !p x) hx
  simp only [hp, if_true, Bool.not_true, Bool.false_eq_true, if_false, List.append_nil] at e1 e2
  refine ⟨?_, ?_, fun k hs ht => ?_, T.b.grown hg T.b.size fun k e => (own_lt T.t k e).2⟩
  · rw [e1, kL_snoc, List.length_append]; exact ho
  · rw [e2]; exact owns_blocks T.s fun k e => hg.block k (own_lt T.s k e).1 (fun h => T.ap k e h.symm)
  · rcases hm k ht with h | h
    · exact T.ap k hs h
    · have := (own_lt T.s k hs).1; omega
theorem Tk.stay {w wr w' : World} {p : Kx → Bool} {l : List Kx} {j : Nat} {tv sv sv' : Value} {x : Kx} (T : Tk w wr p l j tv sv) (hx : l[j]? = some x) (hp : p x = false) (ho : w'.ownsRow w.heap.size 81 4 sv' (((l.take j).filter (fun x => !p x)).length + 1) (kL ((l.take j).filter (fun x => !p x)) ++ kC x)) (hg : wr.grownBy w' sv.ownBlock) (hm : Moved wr sv sv') : Tk w w' p l (j + 1) tv sv' := by
  have e1 := filt_snoc p hx
  have e2 := filt_snoc (fun x => !p x) hx
  simp only [hp, if_true, Bool.not_false, Bool.false_eq_true, if_false, List.append_nil] at e1 e2
  refine ⟨?_, ?_, fun k hs ht => ?_, T.b.grown hg T.b.size fun k e => (own_lt T.s k e).2⟩
  · rw [e1]; exact owns_blocks T.t fun k e => hg.block k (own_lt T.t k e).1 (fun h => T.ap k h.symm e)
  · rw [e2, kL_snoc, List.length_append]; exact ho
  · rcases hm k hs with h | h
    · exact T.ap k h ht
    · have := (own_lt T.t k ht).1; omega
theorem kx_news (w : World) (x : Kx) : ∀ (k : Nat) (u : Value), (kC x)[k]? = some u → (w.alloc (.cells #[.int .u32 x.pc, .int .i64 x.many, .slice x.ra x.rn x.rc, .slice x.ga x.gn x.gc] 81)).cell? ((⟨w.heap.size, 0, none⟩ : Addr).add k) = some u := by
  intro k u hk
  rw [add_lit, World.cell?_alloc_at _ _ _ _ rfl]
  rw [List.getElem?_toArray]; exact hk
set_option maxRecDepth 100000 in
set_option maxHeartbeats 4000000 in
theorem take_any {w : World} {kb : Nat} {room : Int} {v : Value} {l : List Kx} (K : KRow w kb room v l) (hl : l.length ≤ 1000) (f : Nat) (hf : f = 46 ∨ f = 51) (c : Nat) (p : Kx → Bool)
    (hcl : ∀ x ∈ l, ∀ W, Below w.heap.size w W → Calls Tryz.prog f #[.agg #[.int .u32 x.pc, .int .i64 x.many, .slice x.ra x.rn x.rc, .slice x.ga x.gn x.gc], .pointer (some ⟨c, 0, none⟩)] W fun e W' => e = .returned (.bool (p x)) ∧ Below W.heap.size W W') :
    Calls Tryz.prog 29 #[.pointer (some ⟨kb, 0, none⟩), .func (.func f) #[] #[.pointer (some ⟨c, 0, none⟩)]] w fun e w' => ∃ tv sv, e = .returned tv ∧ w'.ownsRow w.heap.size 81 4 tv (l.filter p).length (kL (l.filter p)) ∧ KRow w' kb room sv (l.filter (fun x => !p x)) ∧ (∀ k, sv.ownBlock = some k → w.heap.size ≤ k ∧ tv.ownBlock ≠ some k) ∧ w.grownBy w' (some kb) := by
  obtain ⟨i0, hi, iz0, iz1, iz2⟩ := info_parts infoKept
  have HC : Hid (∀ x ∈ l, ∀ W, Below w.heap.size w W → Calls Tryz.prog f #[.agg #[.int .u32 x.pc, .int .i64 x.many, .slice x.ra x.rn x.rc, .slice x.ga x.gn x.gc], .pointer (some ⟨c, 0, none⟩)] W fun e W' => e = .returned (.bool (p x)) ∧ Below W.heap.size W W') := hcl
  have HK : Hid (KRow w kb room v l) := K
  obtain ⟨ao, cap, rfl, hao⟩ := K.form
  have HA : Hid (0 < l.length → ∃ g, ao = some ⟨g, 0, none⟩) := hao
  have k1 := K.c1
  have zk := K.lt
  clear hcl K hao
  rcases hf with rfl | rfl
  all_goals
    go_enter Tryz.func29, Tryz.ntmps29
    go_wp2
    go_loopw [5, 6, 14] (fun tv sv i wr => ∃ j : Nat, j ≤ l.length ∧ i = .int .i64 j ∧ Tk w wr p l j tv sv) (fun _ _ i _ => l.length - (intOf i).toNat)
    case atStart => exact ⟨0, Nat.zero_le _, rfl, ⟨World.ownsRow_nil _ _ _ _, World.ownsRow_nil _ _ _ _, (fun k h => by cases h), Below.refl _ _⟩⟩
    case round =>
      obtain ⟨j, hj, rfl, T⟩ := hrel
      by_cases hlt : j < l.length
      · obtain ⟨x, hx⟩ : ∃ x, l[j]? = some x := ⟨_, List.getElem?_eq_getElem hlt⟩
        obtain ⟨g, rfl⟩ := HA.out (by omega)
        obtain ⟨x0, x1, x2, x3⟩ := row_cells (HK.out.stays T.b).own hx
        have zb := World.block_lt_of_cell? _ _ x0
        have hlt' : (j : Int) < l.length := by omega
        have hw1 : Below wr.heap.size wr (wr.alloc (.cells #[.int .u32 x.pc, .int .i64 x.many, .slice x.ra x.rn x.rc, .slice x.ga x.gn x.gc] 81)) := (Below.refl _ _).alloc (Nat.le_refl _) _
        have hc := HC.out x (List.mem_of_getElem? hx) _ (T.b.trans (hw1.mono T.b.size))
        have zx := hw1.size
        have y0 : ∀ W', Below (wr.alloc (.cells #[.int .u32 x.pc, .int .i64 x.many, .slice x.ra x.rn x.rc, .slice x.ga x.gn x.gc] 81)).heap.size (wr.alloc (.cells #[.int .u32 x.pc, .int .i64 x.many, .slice x.ra x.rn x.rc, .slice x.ga x.gn x.gc] 81)) W' → W'.cell? ⟨wr.heap.size, 0, none⟩ = some (.int .u32 x.pc) ∧ W'.cell? ⟨wr.heap.size, 1, none⟩ = some (.int .i64 x.many) ∧ W'.cell? ⟨wr.heap.size, 2, none⟩ = some (.slice x.ra x.rn x.rc) ∧ W'.cell? ⟨wr.heap.size, 3, none⟩ = some (.slice x.ga x.gn x.gc) ∧ Tk w W' p l j u5 u6 ∧ wr.heap.size < W'.heap.size := fun W' hb => by
          have hs : wr.heap.size < (wr.alloc (.cells #[.int .u32 x.pc, .int .i64 x.many, .slice x.ra x.rn x.rc, .slice x.ga x.gn x.gc] 81)).heap.size := by rw [World.size_alloc]; omega
          exact ⟨(hb.cell (p := ⟨wr.heap.size, 0, none⟩) hs).trans (by simp), (hb.cell (p := ⟨wr.heap.size, 1, none⟩) hs).trans (by simp), (hb.cell (p := ⟨wr.heap.size, 2, none⟩) hs).trans (by simp), (hb.cell (p := ⟨wr.heap.size, 3, none⟩) hs).trans (by simp), (T.stays hw1).stays hb, by have := hb.size; omega⟩
        have HY : Hid _ := y0
        have HX : Hid (l[j]? = some x) := hx
        have hs5 : w.heap.size ≤ wr.heap.size := T.b.size
        clear y0 hx T hw1 zx
        generalize hP : p x = pb at *
        go_wp2_with fail
        refine hc.mono ?_
        rintro e w1 ⟨rfl, hb1⟩
        obtain ⟨y0, y1, y2, y3, T1, z1⟩ := HY.out w1 hb1
        clear HY hc hb1 x0 x1 x2 x3 zb
        have hb2 : Below w1.heap.size w1 (w1.alloc (.cells #[.int .u32 x.pc, .int .i64 x.many, .slice x.ra x.rn x.rc, .slice x.ga x.gn x.gc] 81)) := (Below.refl _ _).alloc (Nat.le_refl _) _
        have T2 := T1.stays hb2
        have hn := kx_news w1 x
        have hk1 := kL_one [x]
        rw [show kL [x] = kC x by unfold kL; simp] at hk1
        have hs2 : w.heap.size ≤ (w1.alloc (.cells #[.int .u32 x.pc, .int .i64 x.many, .slice x.ra x.rn x.rc, .slice x.ga x.gn x.gc] 81)).heap.size := T2.b.size
        have hn1 : ((l.take j).filter p).length ≤ 1000 := Nat.le_trans (List.length_filter_le _ _) (by rw [List.length_take]; omega)
        have hn2 : ((l.take j).filter (fun x => !p x)).length ≤ 1000 := Nat.le_trans (List.length_filter_le _ _) (by rw [List.length_take]; omega)
        have HT : Hid _ := T2
        clear T1 T2 hb2
        cases pb
        · go_wp2_with (at_builtin; refine wpList_append_moved rfl _ _ 65 rfl w.heap.size 81 i0 _ 4 64 Tryz.underlying65 hi iz0 iz1 iz2 rfl (by decide) u6 _ _ rfl HT.out.s ⟨w1.heap.size, 0, none⟩ 1 1 (kC x) rfl rfl hn hk1 (by unfold maxLen; omega) (by omega) hs2 ?_; intro v1 w2 ho1 hg1 hm1; have HN : Hid (Tk w w2 p l (j + 1) u5 v1) := HT.out.stay HX.out hP ho1 hg1 hm1; clear ho1 hg1 hm1 HT hn hk1 hs2 y0 y1 y2 y3)
          go_roundw
          case rel => exact ⟨j + 1, by omega, by go_num, HN.out⟩
          case measure => simp [intOf]; omega
        · go_wp2_with (at_builtin; refine wpList_append_moved rfl _ _ 65 rfl w.heap.size 81 i0 _ 4 64 Tryz.underlying65 hi iz0 iz1 iz2 rfl (by decide) u5 _ _ rfl HT.out.t ⟨w1.heap.size, 0, none⟩ 1 1 (kC x) rfl rfl hn hk1 (by unfold maxLen; omega) (by omega) hs2 ?_; intro v1 w2 ho1 hg1 hm1; have HN : Hid (Tk w w2 p l (j + 1) v1 u6) := HT.out.taken HX.out hP ho1 hg1 hm1; clear ho1 hg1 hm1 HT hn hk1 hs2 y0 y1 y2 y3)
          go_roundw
          case rel => exact ⟨j + 1, by omega, by go_num, HN.out⟩
          case measure => simp [intOf]; omega
      · obtain rfl : j = l.length := by omega
        obtain ⟨sa, sn, sc, rfl⟩ := own_slice T.s
        have KW := HK.out.stays T.b
        have f1 := KW.fz 1
        have k2 := KW.c1
        have zw := KW.lt
        have tl : l.take l.length = l := List.take_length
        have HF : Hid (∃ tv sv, Ending.returned u5 = .returned tv ∧ (wr.setCell ⟨kb, 1, none⟩ (.slice sa sn sc)).ownsRow w.heap.size 81 4 tv (l.filter p).length (kL (l.filter p)) ∧ KRow (wr.setCell ⟨kb, 1, none⟩ (.slice sa sn sc)) kb room sv (l.filter (fun x => !p x)) ∧ (∀ k, sv.ownBlock = some k → w.heap.size ≤ k ∧ tv.ownBlock ≠ some k) ∧ w.grownBy (wr.setCell ⟨kb, 1, none⟩ (.slice sa sn sc)) (some kb)) := by
          have t := T.t
          have s := T.s
          rw [tl] at t s
          refine ⟨u5, .slice sa sn sc, rfl, owns_blocks t fun k e => Below.heap_setCell _ _ _ _ (by intro e'; have e2 : k = kb := e'; have := (own_lt t k e).2; omega), KW.put (own_low s (by omega)), fun k e => ⟨(own_lt s k e).2, T.ap k e⟩, grown_put T.b⟩
        clear T KW
        go_wp2
        go_ret
        exact HF.out
end Go.Proofs.YtcccaejjhodnkabGreatDoor
