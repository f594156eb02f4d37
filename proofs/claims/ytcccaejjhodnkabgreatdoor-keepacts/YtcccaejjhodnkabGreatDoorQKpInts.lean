/-
  Package keep: rows of int: rising, Contains; the pages of all.
-/
import Derived.Sort.OwnSortedInts
import Derived.Sort.Grow
import Derived.Lib.OwnBridge
import Derived.Test.YtcccaejjhodnkabGreatDoorKMk1
import Derived.Test.YtcccaejjhodnkabGreatDoorKKpAsk
namespace Go.Proofs.YtcccaejjhodnkabGreatDoor
open Go.RowKit Go.Shelf Go.Sort
open Num
set_option linter.unusedVariables false
/-- a row of int, as it is read -/
def IntsAt (w : World) (v : Value) (zs : List Int) : Prop := (v = .slice none 0 0 ∧ zs = []) ∨ ∃ b off cap, v = .slice (some ⟨b, off, none⟩) zs.length cap ∧ zs.length ≤ cap ∧ b < w.heap.size ∧ ∀ j, j < zs.length → w.cell? ⟨b, off + j, none⟩ = some (.int .i64 (zs.getD j 0))
theorem IntsAt.stays {w w' : World} {v : Value} {zs : List Int} (A : IntsAt w v zs) (h : Below w.heap.size w w') : IntsAt w' v zs := by
  rcases A with h0 | ⟨b, off, cap, e, hc, hb, hj⟩
  · exact .inl h0
  · exact .inr ⟨b, off, cap, e, hc, Nat.lt_of_lt_of_le hb h.size, fun j hlt => (h.cell (p := ⟨b, off + j, none⟩) hb).trans (hj j hlt)⟩
/-- rising, each once -/
def rise (zs : List Int) : List Int := Lib.compact (zs.mergeSort fun x y => decide (x ≤ y))
theorem rise_nil : rise [] = [] := by unfold rise; simp [Lib.compact, Lib.compactUpTo]
/-- a row of int of one's own -/
abbrev OwnI (base : Nat) (w : World) (v : Value) (zs : List Int) : Prop := w.ownsRow base 3 1 v zs.length (zs.map (Value.int .i64))
theorem ints_of_own {base : Nat} {w : World} {v : Value} {zs : List Int} (h : OwnI base w v zs) : IntsAt w v zs := by
  rcases h.2 with ⟨rfl, h0⟩ | ⟨g, cap, cur, rfl, hbg, hg, hnc, _⟩
  · exact .inl ⟨rfl, List.length_eq_zero_iff.1 h0⟩
  · refine .inr ⟨g, 0, cap, rfl, hnc, (Array.getElem?_eq_some_iff.1 hg).1, fun j hj => ?_⟩
    have := h.cells (g := g) rfl j (.int .i64 (zs.getD j 0)) (by simp [List.getD, List.getElem?_eq_getElem hj])
    rw [add_lit] at this
    rw [Nat.zero_add]; exact this
theorem rise_own {w w1 : World} {g cap n nn q : Nat} {os : Array Obj} {zs : List Int} (hown : w1.ownsRow w.heap.size 3 1 (.slice (some ⟨g, 0, none⟩) n cap) n (zs.map (Value.int .i64))) (hbel : Below w.heap.size w w1) (hbg : w.heap.size ≤ g) (hlen : zs.length = n) :
    OwnI w.heap.size (putRow (Value.int .i64) (Sort.ahead (grow (putRow (Value.int .i64) (Sort.ahead w1 nn) g 0 (zs.mergeSort fun x y => decide (x ≤ y)).toArray) os) q) g 0 (Lib.compact (zs.mergeSort fun x y => decide (x ≤ y)) ++ List.replicate (n - (Lib.compact (zs.mergeSort fun x y => decide (x ≤ y))).length) 0).toArray) (.slice (some ⟨g, 0, none⟩) (rise zs).length cap) (rise zs) ∧
    Below w.heap.size w (putRow (Value.int .i64) (Sort.ahead (grow (putRow (Value.int .i64) (Sort.ahead w1 nn) g 0 (zs.mergeSort fun x y => decide (x ≤ y)).toArray) os) q) g 0 (Lib.compact (zs.mergeSort fun x y => decide (x ≤ y)) ++ List.replicate (n - (Lib.compact (zs.mergeSort fun x y => decide (x ≤ y))).length) 0).toArray) := by
  have hl2 : (zs.mergeSort fun x y => decide (x ≤ y)).length = zs.length := List.length_mergeSort zs
  have hle := Lib.compact_length_le (zs.mergeSort fun x y => decide (x ≤ y))
  subst hlen
  rcases hown.2 with ⟨h0, _⟩ | ⟨g', cap', cur, hv, hbase, hb, h1, h2, h3, h4⟩
  · cases h0
  cases hv
  have hs := ownsRow_sortedI (n := nn) (os := os) (ts := zs.mergeSort fun x y => decide (x ≤ y)) hl2 hbase hb h1 h2 h3
  have hc := Lib.ownsRow_putRow (q := q) (k := (Lib.compact (zs.mergeSort fun x y => decide (x ≤ y))).length) (ys := Lib.compact (zs.mergeSort fun x y => decide (x ≤ y)) ++ List.replicate (zs.length - (Lib.compact (zs.mergeSort fun x y => decide (x ≤ y))).length) 0) hs (by simp; omega) (by omega)
  rw [List.take_left] at hc
  exact ⟨hc, Lib.below_putRow (hbel.grown (grownBy_sortedI _) hbel.size (fun j hj => by cases hj; exact hbase)) hbg⟩
set_option maxRecDepth 100000 in
set_option maxHeartbeats 2000000 in
theorem rising_any {w : World} {v : Value} {zs : List Int} (A : IntsAt w v zs) (hl : zs.length ≤ 1000000) :
    Calls Tryz.prog 32 #[v] w fun e w' => ∃ v', e = .returned v' ∧ OwnI w.heap.size w' v' (rise zs) ∧ Below w.heap.size w w' := by
  rcases A with ⟨rfl, rfl⟩ | ⟨b, off, cap, rfl, hc, hb, hj⟩
  · have h1 := Any.slices_Clone_int_nil Tryz.laysClone 0 0 w
    have h2 := Any.slices_Sort_int_none Tryz.laysSort none 0 w
    have h3 := Any.slices_Compact_int_empty Tryz.laysCompact none 0 w
    go_enter Tryz.func32, Tryz.ntmps32
    go_wp2_with fail
    refine h1.mono ?_
    rintro e w1 ⟨rfl, rfl⟩
    go_wp2_with fail
    refine h2.mono ?_
    rintro e w1 ⟨rfl, rfl⟩
    go_wp2_with fail
    refine h3.mono ?_
    rintro e w1 ⟨rfl, rfl⟩
    go_wp2
    go_ret
    exact ⟨_, rfl, by rw [rise_nil]; exact World.ownsRow_nil _ _ _ _, Below.refl _ _⟩
  · have h1 := Any.slices_Clone_int Tryz.laysClone b off zs.length cap zs w (Nat.le_refl _) (by omega) hj
    rw [List.take_length] at h1
    clear hj
    go_enter Tryz.func32, Tryz.ntmps32
    go_wp2_with fail
    refine h1.mono ?_
    rintro e w1 ⟨v1, rfl, hown, hnn, hbel⟩
    obtain ⟨g, cap1, rfl, hbg, hgl, hncap, hcm, hlen, hH⟩ := Lib.holds_of_ownsRow hown hnn
    have hsort := Any.slices_Sort_int Tryz.laysSort g 0 cap1 zs w1 hH hgl (by omega)
    have X : Hid (w1.ownsRow w.heap.size 3 1 (.slice (some ⟨g, 0, none⟩) zs.length cap1) zs.length (zs.map (Value.int .i64)) ∧ Below w.heap.size w w1 ∧ w.heap.size ≤ g ∧ g < w1.heap.size ∧ zs.length ≤ cap1 ∧ Holds (Value.int .i64) w1 g 0 zs.toArray) := ⟨hown, hbel, hbg, hgl, hncap, hH⟩
    clear hown hbel hH hnn h1
    go_wp2_with fail
    refine hsort.mono ?_
    rintro e w2 ⟨rfl, nn, os, rfl⟩
    have hl2 : (zs.mergeSort fun x y => decide (x ≤ y)).length = zs.length := List.length_mergeSort zs
    have hH2 : Holds (Value.int .i64) (grow (putRow (Value.int .i64) (Sort.ahead w1 nn) g 0 (zs.mergeSort fun x y => decide (x ≤ y)).toArray) os) g 0 (zs.mergeSort fun x y => decide (x ≤ y)).toArray :=
      holds_grow (Value.int .i64) _ os g 0 _ (by simpa [putRow, mapBlock, Sort.ahead] using X.out.2.2.2.1) (holds_putRow (Value.int .i64) _ g 0 _ _ (holds_ahead (Value.int .i64) w1 nn g 0 _ X.out.2.2.2.2.2) (by simp))
    have hcomp := Any.slices_Compact_int Tryz.laysCompact g 0 cap1 (zs.mergeSort fun x y => decide (x ≤ y)) _ hH2 (by omega) (by omega)
    rw [hl2] at hcomp
    have F : Hid (∀ q, _) := fun q => rise_own (nn := nn) (q := q) (os := os) X.out.1 X.out.2.1 X.out.2.2.1 rfl
    clear hH2 hsort X hl2
    generalize grow (putRow (Value.int .i64) (Sort.ahead w1 nn) g 0 (zs.mergeSort fun x y => decide (x ≤ y)).toArray) os = w2 at *
    go_wp2_with fail
    refine hcomp.mono ?_
    rintro e w3 ⟨rfl, q, rfl⟩
    have FF : Hid _ := F.out q
    clear F hcomp
    generalize putRow (Value.int .i64) (Sort.ahead w2 q) g 0 (Lib.compact (zs.mergeSort fun x y => decide (x ≤ y)) ++ List.replicate (zs.length - (Lib.compact (zs.mergeSort fun x y => decide (x ≤ y))).length) 0).toArray = w3 at *
    go_wp2
    go_ret
    exact ⟨_, rfl, FF.out.1, FF.out.2⟩
set_option maxRecDepth 100000 in
set_option maxHeartbeats 2000000 in
theorem isOf1_any {w : World} {c : Nat} {page : Int} (hc : w.cell? ⟨c, 0, none⟩ = some (.int .i64 page)) (x : Kx) (A : IntsAt w (.slice x.ga x.gn x.gc) x.zs) (hl : x.zs.length ≤ 1000000) :
    Calls Tryz.prog 51 #[.agg #[.int .u32 x.pc, .int .i64 x.many, .slice x.ra x.rn x.rc, .slice x.ga x.gn x.gc], .pointer (some ⟨c, 0, none⟩)] w fun e w' => e = .returned (.bool (x.zs.contains page)) ∧ Below w.heap.size w w' := by
  have zc := World.block_lt_of_cell? _ _ hc
  have hb : Below w.heap.size w (w.alloc (.cells #[.int .u32 x.pc, .int .i64 x.many, .slice x.ra x.rn x.rc, .slice x.ga x.gn x.gc] 81)) := (Below.refl _ _).alloc (Nat.le_refl _) _
  have hcall : Calls Tryz.prog 52 #[.slice x.ga x.gn x.gc, .int .i64 page] (w.alloc (.cells #[.int .u32 x.pc, .int .i64 x.many, .slice x.ra x.rn x.rc, .slice x.ga x.gn x.gc] 81)) fun e w' => e = .returned (.bool (x.zs.contains page)) ∧ w' = (w.alloc (.cells #[.int .u32 x.pc, .int .i64 x.many, .slice x.ra x.rn x.rc, .slice x.ga x.gn x.gc] 81)) := by
    rcases A.stays hb with ⟨e, hz⟩ | ⟨b, off, cap, e, hcp, hbl, hj⟩
    · have h := Any.slices_Contains_int_empty Tryz.laysContains none 0 page (w.alloc (.cells #[.int .u32 x.pc, .int .i64 x.many, .slice x.ra x.rn x.rc, .slice x.ga x.gn x.gc] 81))
      rw [← e] at h; rw [hz]; exact h
    · have h := Any.slices_Contains_int Tryz.laysContains b off x.zs.length cap x.zs page _ (Nat.le_refl _) (by omega) hj
      rw [List.take_length, ← e] at h
      exact h
  have HB : Hid _ := hb
  clear hb A
  generalize x.zs.contains page = pb at *
  go_enter Tryz.func51, Tryz.ntmps51
  go_wp2_with fail
  refine hcall.mono ?_
  rintro e w1 ⟨rfl, rfl⟩
  clear hcall
  go_wp2
  go_ret
  exact ⟨rfl, HB.out⟩
theorem run_append_none {P : Program} (w : World) (t ty e : TypeId) (i : TypeInfo) (ht : P.underlying t = some (.slice e)) (hi : P.info? e = some i) (oa : Option Addr) (on oc : Nat) (h : on ≤ oc) :
    (Builtin.append_ #[t, t] ty #[.slice oa on oc, .slice none 0 0]).run P w = .ok (.slice oa on oc) w := by
  cases oa <;> simp [Builtin.append_, run_underlying ht, sizeOf, typeInfo, hi, Builtin.lenOf, Builtin.firstCells, h, storeCells]
theorem wpList_append_none {P : Program} {w : World} {ops : Array Oper} {rest : List Oper} {o : Oper} {a : Act} {Q : Exit → Act → World → Prop} (hgd : o.guard = none) (s x : Operand) (t : TypeId)
    (ho : o.op = .call { callee := .builtin .append, args := #[s, x], argTypes := #[t, t] })
    (e : TypeId) (i : TypeInfo) (ht : P.underlying t = some (.slice e)) (hi : P.info? e = some i) (oa : Option Addr) (on oc : Nat) (hs : a.eval s = .slice oa on oc) (hx : a.eval x = .slice none 0 0) (hc : on ≤ oc)
    (h : wpList P ops Q rest (a.put o.dst (.slice oa on oc)) w) : wpList P ops Q (o :: rest) a w := by
  refine wpList_plain hgd fun K hK => ?_
  have hr := run_append_none (P := P) w t o.type e i ht hi oa on oc hc
  unfold Oper.wp execOp
  simp only [ho, resolve, invoke, builtin, Sem.run_bind, Sem.run_pure, Result.andThen_ok, List.map_toArray, List.map_cons, List.map_nil, hs, hx, hr]
  exact hK _ _ h
/-- pages of all, as they are put together -/
def allPg (l : List Kx) : List Int := l.flatMap (·.zs)
theorem allPg_snoc {l : List Kx} {j : Nat} {x : Kx} (h : l[j]? = some x) : allPg (l.take (j + 1)) = allPg (l.take j) ++ x.zs := by
  rw [tk_snoc h]; unfold allPg; simp
theorem allPg_len (l : List Kx) (m : Nat) (h : ∀ x ∈ l, x.zs.length ≤ m) : (allPg l).length ≤ l.length * m := by
  induction l with
  | nil => simp [allPg]
  | cons x r ih =>
    have := ih (fun y hy => h y (List.mem_cons_of_mem _ hy))
    have h1 := h x (List.mem_cons_self ..)
    unfold allPg at this ⊢
    rw [List.flatMap_cons, List.length_append, List.length_cons, Nat.add_mul]
    omega
set_option maxRecDepth 100000 in
set_option maxHeartbeats 4000000 in
theorem pages_any {w : World} {kb : Nat} {room : Int} {v : Value} {l : List Kx} (K : KRow w kb room v l) (A : ∀ x ∈ l, IntsAt w (.slice x.ga x.gn x.gc) x.zs) (hl : l.length ≤ 1000) (hz : ∀ x ∈ l, x.zs.length ≤ 100) :
    Calls Tryz.prog 21 #[.pointer (some ⟨kb, 0, none⟩)] w fun e w' => ∃ v', e = .returned v' ∧ OwnI w.heap.size w' v' (rise (allPg l)) ∧ Below w.heap.size w w' := by
  obtain ⟨i0, hi, iz0, iz1, iz2⟩ := info_parts infoInt
  have HK : Hid (KRow w kb room v l) := K
  have HI : Hid (∀ x ∈ l, IntsAt w (.slice x.ga x.gn x.gc) x.zs) := A
  have HZ : Hid (∀ x ∈ l, x.zs.length ≤ 100) := hz
  obtain ⟨ao, cap, rfl, hao⟩ := K.form
  have HA : Hid (0 < l.length → ∃ g, ao = some ⟨g, 0, none⟩) := hao
  have k1 := K.c1
  have zk := K.lt
  clear K hao A hz
  go_enter Tryz.func21, Tryz.ntmps21
  go_wp2
  go_loopw [3, 11] (fun out i wr => ∃ j : Nat, j ≤ l.length ∧ i = .int .i64 j ∧ OwnI w.heap.size wr out (allPg (l.take j)) ∧ Below w.heap.size w wr) (fun _ i _ => l.length - (intOf i).toNat)
  case atStart => exact ⟨0, Nat.zero_le _, rfl, World.ownsRow_nil _ _ _ _, Below.refl _ _⟩
  case round =>
    obtain ⟨j, hj, rfl, ho, hB⟩ := hrel
    have hpl : (allPg (l.take j)).length ≤ 100000 := by
      have h1 := allPg_len (l.take j) 100 (fun x hx => HZ.out x (List.mem_of_mem_take hx))
      have h2 : (l.take j).length ≤ 1000 := by rw [List.length_take]; omega
      omega
    by_cases hlt : j < l.length
    · obtain ⟨x, hx⟩ : ∃ x, l[j]? = some x := ⟨_, List.getElem?_eq_getElem hlt⟩
      obtain ⟨g, rfl⟩ := HA.out (by omega)
      obtain ⟨x0, x1, x2, x3⟩ := row_cells (HK.out.stays hB).own hx
      have zb := World.block_lt_of_cell? _ _ x0
      have hlt' : (j : Int) < l.length := by omega
      have hw1 : Below wr.heap.size wr (wr.alloc (.cells #[.int .u32 x.pc, .int .i64 x.many, .slice x.ra x.rn x.rc, .slice x.ga x.gn x.gc] 81)) := (Below.refl _ _).alloc (Nat.le_refl _) _
      have ho2 := owns_blocks ho fun k e => hw1.block k (own_lt ho k e).1
      have hs5 := hB.size
      have hxz : x.zs.length ≤ 100 := HZ.out x (List.mem_of_getElem? hx)
      have hsnoc := allPg_snoc hx
      have hB2 := hB.trans (hw1.mono hB.size)
      obtain ⟨oa, on, oc, hv3⟩ := own_slice ho
      subst hv3
      rcases ((HI.out x (List.mem_of_getElem? hx)).stays hB).stays hw1 with ⟨e, hz0⟩ | ⟨b, off, cp, e, hcp, hbl, hjc⟩
      · rw [e] at x3 hw1 ho2 hB2
        have HO : Hid (OwnI w.heap.size (wr.alloc (.cells #[.int .u32 x.pc, .int .i64 x.many, .slice x.ra x.rn x.rc, .slice none 0 0] 81)) (.slice oa on oc) (allPg (l.take (j + 1)))) := by show OwnI _ _ _ _; rw [hsnoc, hz0, List.append_nil]; exact ho2
        have HB2 : Hid _ := hB2
        have hcap := own_cap ho
        clear ho ho2 hB hw1 hB2 hsnoc e hz0 hx hxz
        go_wp2_with (at_builtin; refine wpList_append_none rfl _ _ 36 rfl 3 i0 Tryz.underlying36 hi oa on oc rfl rfl hcap ?_)
        go_roundw
        case rel => exact ⟨j + 1, by omega, by go_num, HO.out, HB2.out⟩
        case measure => simp [intOf]; omega
      · rw [e] at x3 hw1 ho2 hB2 hjc
        have HN : Hid (∀ v1 w2, w2.ownsRow w.heap.size 3 1 v1 ((allPg (l.take j)).length + x.zs.length) ((allPg (l.take j)).map (Value.int .i64) ++ x.zs.map (Value.int .i64)) → (wr.alloc (.cells #[.int .u32 x.pc, .int .i64 x.many, .slice x.ra x.rn x.rc, .slice (some ⟨b, off, none⟩) x.zs.length cp] 81)).grownBy w2 (Value.slice oa on oc).ownBlock → OwnI w.heap.size w2 v1 (allPg (l.take (j + 1))) ∧ Below w.heap.size w w2) := fun v1 w2 h1 h2 => by
          refine ⟨?_, hB2.grown h2 hB2.size fun k e => (own_lt ho k e).2⟩
          show OwnI _ _ _ _
          rw [hsnoc]; show World.ownsRow _ _ _ _ _ _ _; rw [List.length_append, List.map_append]; exact h1
        have hn : ∀ (k : Nat) (u : Value), (x.zs.map (Value.int .i64))[k]? = some u → (wr.alloc (.cells #[.int .u32 x.pc, .int .i64 x.many, .slice x.ra x.rn x.rc, .slice (some ⟨b, off, none⟩) x.zs.length cp] 81)).cell? ((⟨b, off, none⟩ : Addr).add k) = some u := by
          intro k u hk
          have hk1 : k < x.zs.length := by have := (List.getElem?_eq_some_iff.1 hk).1; simpa using this
          have ha : (⟨b, off, none⟩ : Addr).add k = ⟨b, off + k, none⟩ := by unfold Addr.add; split <;> simp_all
          rw [ha, hjc k hk1, ← hk]
          simp [List.getD, List.getElem?_eq_getElem hk1]
        have hs2 : w.heap.size ≤ (wr.alloc (.cells #[.int .u32 x.pc, .int .i64 x.many, .slice x.ra x.rn x.rc, .slice (some ⟨b, off, none⟩) x.zs.length cp] 81)).heap.size := hB2.size
        have HO : Hid _ := ho2
        have hln : (x.zs.map (Value.int .i64)).length = x.zs.length * 1 := by simp
        have hon : ∀ u ∈ x.zs.map (Value.int .i64), u.oneCell' = true := fun u hu => by obtain ⟨y, _, rfl⟩ := List.mem_map.1 hu; rfl
        clear ho ho2 hB hw1 hB2 hsnoc e hjc hx
        generalize x.zs.map (Value.int .i64) = zv at *
        generalize x.zs.length = zn at *
        go_wp2_with (at_builtin; refine wpList_append_moved rfl _ _ 36 rfl w.heap.size 3 i0 _ 1 8 Tryz.underlying36 hi iz0 iz1 iz2 rfl (by decide) (.slice oa on oc) _ _ rfl HO.out ⟨b, off, none⟩ zn cp zv rfl hln hn hon (by unfold maxLen; omega) (by omega) hs2 ?_; intro v1 w2 ho1 hg1 hm1; have KN : Hid _ := HN.out v1 w2 ho1 hg1; clear ho1 hg1 hm1 HN HO hn hs2 x0 x1 x2 x3)
        go_roundw
        case rel => exact ⟨j + 1, by omega, by go_num, KN.out.1, KN.out.2⟩
        case measure => simp [intOf]; omega
    · obtain rfl : j = l.length := by omega
      have HF : Hid (OwnI w.heap.size wr u3 (allPg l)) := by show OwnI _ _ _ _; have := ho; rwa [List.take_length] at this
      have HB : Hid _ := hB
      rw [List.take_length] at hpl
      have hr := rising_any (ints_of_own HF.out) (by omega)
      obtain ⟨oa, on, oc, rfl⟩ := own_slice ho
      clear ho hB
      go_wp2_with fail
      refine hr.mono ?_
      rintro e w2 ⟨v', rfl, ho2, hb2⟩
      have HO : Hid (OwnI w.heap.size w2 v' (rise (allPg l))) := own_low ho2 HB.out.size
      have HB2 : Hid (Below w.heap.size w w2) := HB.out.trans (hb2.mono HB.out.size)
      clear hr ho2 hb2 HB HF
      go_wp2
      go_ret
      exact ⟨_, rfl, HO.out, HB2.out⟩
end Go.Proofs.YtcccaejjhodnkabGreatDoor
