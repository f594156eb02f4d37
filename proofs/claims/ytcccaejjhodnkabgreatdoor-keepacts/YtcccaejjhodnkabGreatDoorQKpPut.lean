/-
  Package keep: Put.
-/
import Derived.Test.YtcccaejjhodnkabGreatDoorKKpDrop
import Derived.Test.YtcccaejjhodnkabGreatDoorQPl6
namespace Go.Proofs.YtcccaejjhodnkabGreatDoor
open Go.RowKit Go.Maps
open Num
set_option linter.unusedVariables false
theorem oper_append_movedK {P : Program} {o : Oper} {a : Act} {w : World} {K : Act → World → Prop} {Q : Exit → Act → World → Prop} (s x : Operand) (t : TypeId)
    (ho : o.op = .call { callee := .builtin .append, args := #[s, x], argTypes := #[t, t] })
    (base : Nat) (e : TypeId) (i : TypeInfo) (z : Value) (size bytes : Nat) (ht : P.underlying t = some (.slice e)) (hi : P.info? e = some i) (hz : i.zero = some z)
    (hsize : i.size = size) (hby : i.bytes = bytes) (hzs : z.cells.size = size) (hsz : 0 < size)
    (v : Value) (n : Nat) (xs : List Value) (hs : a.eval s = v) (hown : w.ownsRow base e size v n xs)
    (ad : Addr) (m c : Nat) (news : List Value) (hx : a.eval x = .slice (some ad) m c) (hl : news.length = m * size) (hnews : ∀ j u, news[j]? = some u → w.cell? (ad.add j) = some u) (h1 : ∀ u ∈ news, u.oneCell' = true)
    (h63 : n + m ≤ maxLen) (hbytes : (n + m) * bytes ≤ 140737488355328) (hbase : base ≤ w.heap.size)
    (h : ∀ v' w', w'.ownsRow base e size v' (n + m) (xs ++ news) → w.grownBy w' v.ownBlock → Moved w v v' → K (a.put o.dst v') w') : Oper.wp P o a w K Q := by
  obtain ⟨v', w', hr, h2, h3, h4⟩ := run_append_moved (P := P) w base t o.type e i z size bytes ht hi hz hsize hby hzs hsz v n xs hown ad m c news hl hnews h1 h63 hbytes hbase
  unfold Oper.wp execOp
  simp only [ho, resolve, invoke, builtin, Sem.run_bind, Sem.run_pure, Result.andThen_ok, List.map_toArray, List.map_cons, List.map_nil, hs, hx, hr]
  exact h v' w' h2 h3 h4
theorem RowsI.ok {w : World} {v : Value} {rs : List (List Opx)} (R : RowsI w v rs) : ∀ r ∈ rs, ∀ o ∈ r, o.ok := by
  intro r hr
  obtain ⟨ao, cap, _, _, hh⟩ := R
  obtain ⟨i, hi⟩ := List.getElem?_of_mem hr
  obtain ⟨b, off, _, hcell⟩ := hh (by have := (List.getElem?_eq_some_iff.1 hi).1; omega)
  obtain ⟨u, _, hO⟩ := hcell i r hi
  exact hO.ok
theorem rowsF_ok {many : Int} : ∀ (rs : List (List Opx)) (n : Nat), (rowsF many n rs).1 = 0 → ∀ r ∈ rs, 0 < r.length
  | [], _, _, r, hr => by cases hr
  | q :: rs, n, h, r, hr => by
    unfold rowsF at h
    by_cases hq : rowE many rs.isEmpty q ≠ 0
    · rw [if_pos hq] at h; exact absurd h hq
    · rw [if_neg hq] at h
      rcases List.mem_cons.1 hr with rfl | hr
      · rcases Nat.eq_zero_or_pos r.length with h0 | h0
        · exact absurd (by rw [List.length_eq_zero_iff.1 h0]; unfold rowE; simp) hq
        · exact h0
      · exact rowsF_ok rs (n + 1) h r hr
theorem planF_rows {many : Int} {rs : List (List Opx)} (h : planF many rs = (0, -1)) : ∀ r ∈ rs, 0 < r.length := by
  unfold planF at h
  by_cases h1 : many < 1 ∨ 24 < many
  · rw [if_pos h1] at h; simp at h
  rw [if_neg h1] at h
  by_cases h2 : 200 < rs.length
  · rw [if_pos h2] at h; simp at h
  rw [if_neg h2] at h
  by_cases h3 : rs = []
  · subst h3; intro r hr; cases hr
  rw [if_neg h3] at h
  by_cases h4 : (rowsF many 0 rs).1 ≠ 0
  · rw [if_pos h4] at h; rw [h] at h4; simp at h4
  · exact rowsF_ok rs 0 (by simpa using h4)
/-- too many: the first one goes -/
def cutK (room : Int) (l : List Kx) : List Kx := if room < (l.length : Int) then l.drop 1 else l
/-- who stays where a plan of this place comes -/
def othK (pc : Int) (x : Kx) : Bool := !decide (x.pc = pc)
/-- what a region of Put reads -/
structure CkU (W : World) (kb pb : Nat) (v : Value) (pc many : Int) (rv : Value) : Prop where
  a : W.cell? ⟨kb, 1, none⟩ = some v
  b0 : W.cell? ⟨pb, 0, none⟩ = some (.int .u32 pc)
  b1 : W.cell? ⟨pb, 1, none⟩ = some (.int .i64 many)
  b2 : W.cell? ⟨pb, 2, none⟩ = some rv
theorem CkU.stays {W W' : World} {kb pb : Nat} {v : Value} {pc many : Int} {rv : Value} (C : CkU W kb pb v pc many rv) (h : Below W.heap.size W W') : CkU W' kb pb v pc many rv :=
  ⟨(h.cell (p := ⟨kb, 1, none⟩) (World.block_lt_of_cell? _ _ C.a)).trans C.a, (h.cell (p := ⟨pb, 0, none⟩) (World.block_lt_of_cell? _ _ C.b0)).trans C.b0, (h.cell (p := ⟨pb, 1, none⟩) (World.block_lt_of_cell? _ _ C.b1)).trans C.b1, (h.cell (p := ⟨pb, 2, none⟩) (World.block_lt_of_cell? _ _ C.b2)).trans C.b2⟩
theorem KRow.mk2 {w : World} {kb : Nat} {room : Int} {v v' : Value} {l' : List Kx} (st : RowIs w kb 67 2 (fun j => if j = 0 then .int .i64 room else v)) (ho : w.ownsRow (kb + 1) 81 4 v' l'.length (kL l')) : KRow (w.setCell ⟨kb, 1, none⟩ v') kb room v' l' := by
  refine ⟨st.put 1 v' _ rfl fun j hj hne => ?_, owns_blocks ho fun k e => ?_⟩
  · obtain rfl : j = 0 := by omega
    rfl
  · have := own_lt ho k e
    exact Below.heap_setCell _ _ _ _ (by intro e; have e' : k = kb := e; omega)
/-- one more in the row -/
theorem put_end {mb : Nat} {w w4 w5 w6 wA w7 : World} {kb : Nat} {room : Int} {sv v5 v6 v7 : Value} {l1 : List Kx} {us : List Value} {x : Kx} (K4 : KIs mb w4 kb room sv l1) (hg : w.grownBy w4 (some kb)) (hsv : ∀ k, sv.ownBlock = some k → w.heap.size ≤ k) (hmb : mb < w4.heap.size)
    (hb5 : Below w4.heap.size w4 w5) (hr5 : RwK w4.heap.size w5 v5 us x.rs) (ok : ∀ r ∈ x.rs, ∀ o ∈ r, o.ok) (hb6 : Below w5.heap.size w5 w6) (ho6 : OwnI w5.heap.size w6 v6 x.zs) (e5 : v5 = .slice x.ra x.rn x.rc) (e6 : v6 = .slice x.ga x.gn x.gc) (hA : Below w6.heap.size w6 wA)
    (ho7 : w7.ownsRow (kb + 1) 81 4 v7 (l1.length + 1) (kL l1 ++ kC x)) (hg7 : wA.grownBy w7 sv.ownBlock) (hm7 : Moved wA sv v7) :
    KIs mb (w7.setCell ⟨kb, 1, none⟩ v7) kb room v7 (l1 ++ [x]) ∧ w.grownBy (w7.setCell ⟨kb, 1, none⟩ v7) (some kb) ∧ ∀ k, v7.ownBlock = some k → w.heap.size ≤ k := by
  have hkb := K4.row.lt
  have hs5 := hb5.size
  have hs6 := hb6.size
  have hsA := hA.size
  have hs7 := hg7.size
  have hsg := hg.size
  have svl : ∀ k, sv.ownBlock = some k → k < w4.heap.size ∧ kb + 1 ≤ k := own_lt K4.row.own
  have old : ∀ k, k < w4.heap.size → sv.ownBlock ≠ some k → w7.heap[k]? = w4.heap[k]? := fun k hk hne => by
    rw [hg7.block k (by omega) (Ne.symm hne), hA.block k (by omega), hb6.block k (by omega), hb5.block k hk]
  have mid5 : ∀ k, w4.heap.size ≤ k → k < w5.heap.size → w7.heap[k]? = w5.heap[k]? := fun k h1 h2 => by
    rw [hg7.block k (by omega) (fun e => by have := (svl k e.symm).1; omega), hA.block k (by omega), hb6.block k h2]
  have mid6 : ∀ k, w5.heap.size ≤ k → k < w6.heap.size → w7.heap[k]? = w6.heap[k]? := fun k h1 h2 => by
    rw [hg7.block k (by omega) (fun e => by have := (svl k e.symm).1; omega), hA.block k h2]
  have nv : ∀ k, w4.heap.size ≤ k → k < w6.heap.size → v7.ownBlock ≠ some k := fun k h1 h2 e => by
    rcases hm7 k e with h | h
    · have := (svl k h).1; omega
    · omega
  have st : ∀ k, k ≠ kb → (w7.setCell ⟨kb, 1, none⟩ v7).heap[k]? = w7.heap[k]? := fun k hk => Below.heap_setCell _ _ _ _ hk
  have hr : KRow (w7.setCell ⟨kb, 1, none⟩ v7) kb room v7 (l1 ++ [x]) := by
    refine KRow.mk2 (K4.row.st.block (old kb hkb (fun e => by have := (svl kb e).2; omega))) ?_
    rw [List.length_append, kL_snoc]; exact ho7
  refine ⟨⟨hr, fun y hy => ?_⟩, ⟨?_, ?_, ?_, ?_, fun k hk hne => ?_⟩, fun k e => ?_⟩
  · rcases List.mem_append.1 hy with hy | hy
    · refine (K4.one y hy).next (by rw [World.size_setCell]; omega) (fun k h1 h2 _ h3 => (st k h2).trans (old k h1 h3)) fun k e => ?_
      rcases hm7 k e with h | h
      · exact .inl h
      · exact .inr (by omega)
    · obtain rfl : y = x := by simpa using hy
      intro W hs hW
      rw [World.size_setCell] at hs hW
      have hW6 : ∀ k, w5.heap.size ≤ k → k < w6.heap.size → W.heap[k]? = w6.heap[k]? := fun k h1 h2 => by
        rw [hW k (by omega) (by omega) (by omega) (nv k (by omega) h2), st k (by omega), mid6 k h1 h2]
      have hW5 : ∀ k, w4.heap.size ≤ k → k < w5.heap.size → W.heap[k]? = w5.heap[k]? := fun k h1 h2 => by
        rw [hW k (by omega) (by omega) (by omega) (nv k h1 (by omega)), st k (by omega), mid5 k h1 h2]
      refine ⟨?_, ?_⟩
      · rw [← e6]
        exact ints_of_own (owns_blocks ho6 fun k e => hW6 k (own_lt ho6 k e).2 (own_lt ho6 k e).1)
      · rw [← e5]
        exact (hr5.blocks (by omega) hW5).rows ok
  · exact hg7.os.trans (hA.os.trans (hb6.os.trans (hb5.os.trans hg.os)))
  · exact hg7.tape.trans (hA.tape.trans (hb6.tape.trans (hb5.tape.trans hg.tape)))
  · exact hg7.output.trans (hA.output.trans (hb6.output.trans (hb5.output.trans hg.output)))
  · rw [World.size_setCell]; omega
  · have hkn : k ≠ kb := fun e => hne (by rw [e])
    rw [st k hkn, old k (by omega) (fun e => by have := hsv k e; omega), hg.block k hk hne]
  · rcases hm7 k e with h | h
    · exact hsv k h
    · omega
/-- the first one has gone -/
theorem del_end {mb : Nat} {w w8 w9 : World} {kb g cap : Nat} {room : Int} {y : Kx} {r : List Kx} (K8 : KIs mb w8 kb room (.slice (some ⟨g, 0, none⟩) (r.length + 1) cap) (y :: r)) (hg : w.grownBy w8 (some kb)) (hgl : w.heap.size ≤ g)
    (ho9 : w9.ownsRow (kb + 1) 81 4 (.slice (some ⟨g, 0, none⟩) r.length cap) r.length (kL r)) (hg9 : w8.grownBy w9 (some g)) :
    KIs mb (w9.setCell ⟨kb, 1, none⟩ (.slice (some ⟨g, 0, none⟩) r.length cap)) kb room (.slice (some ⟨g, 0, none⟩) r.length cap) r ∧ w.grownBy (w9.setCell ⟨kb, 1, none⟩ (.slice (some ⟨g, 0, none⟩) r.length cap)) (some kb) := by
  have hkb := K8.row.lt
  have hs9 := hg9.size
  have hsg := hg.size
  have hgk : kb + 1 ≤ g := (own_lt K8.row.own g rfl).2
  have st : ∀ k, k ≠ kb → (w9.setCell ⟨kb, 1, none⟩ (.slice (some ⟨g, 0, none⟩) r.length cap)).heap[k]? = w9.heap[k]? := fun k hk => Below.heap_setCell _ _ _ _ hk
  refine ⟨⟨KRow.mk2 (K8.row.st.block (hg9.block kb hkb (fun e => by injection e; omega))) ho9, fun x hx => ?_⟩, hg9.os.trans hg.os, hg9.tape.trans hg.tape, hg9.output.trans hg.output, by rw [World.size_setCell]; omega, fun k hk hne => ?_⟩
  · refine (K8.one x (List.mem_cons_of_mem _ hx)).next (by rw [World.size_setCell]; omega) (fun k h1 h2 _ h3 => ?_) fun k e => .inl e
    rw [st k h2, hg9.block k h1 (fun e => h3 (by rw [e]; rfl))]
  · have hkn : k ≠ kb := fun e => hne (by rw [e])
    rw [st k hkn, hg9.block k (by omega) (fun e => by injection e; omega), hg.block k hk hne]
/-- what Put leaves -/
def PutDone (mb : Nat) (w : World) (kb : Nat) (room : Int) (l : List Kx) (pc many : Int) (zs : List Int) (rs : List (List Opx)) (e : Ending) (w' : World) : Prop :=
  ∃ x v', e = .returned .nilIface ∧ (x.pc = pc ∧ x.many = many ∧ x.zs = rise zs ∧ x.rs = rs) ∧ KIs mb w' kb room v' (cutK room (l.filter (othK pc) ++ [x])) ∧ w.grownBy w' (some kb)
set_option maxRecDepth 100000 in
set_option maxHeartbeats 4000000 in
theorem put_ok {mb : Nat} (pe : Nat → Addr) {w : World} (E : Ep pe w) {kb : Nat} {room : Int} {v : Value} {l : List Kx} (K : KIs mb w kb room v l) (hmb : mb < w.heap.size) (hl : l.length ≤ 900) {rv gv : Value} {rs : List (List Opx)} {zs : List Int}
    (A : KHold mb w kb (.slice none 0 0) (fun W => RowsI W rv rs ∧ IntsAt W gv zs)) (F : Few rs) (hzs : zs.length ≤ 1000) (pc many : Int) (m0 : -9223372036854775808 ≤ many) (m1 : many ≤ 9223372036854775807) (hP : planF many rs = (0, -1)) :
    Calls Tryz.prog 10 #[.pointer (some ⟨kb, 0, none⟩), .agg #[.int .u32 pc, .int .i64 many, rv], gv] w (PutDone mb w kb room l pc many zs rs) := by
  obtain ⟨i0, hi, iz0, iz1, iz2⟩ := info_parts infoKept
  obtain ⟨ao, rc, hrv, hrc, _⟩ := A.here.1
  subst hrv
  obtain ⟨ga, gn, gc, hgv⟩ : ∃ a n c, gv = .slice a n c := by rcases A.here.2 with ⟨e, _⟩ | ⟨b, off, cap, e, _⟩ <;> exact ⟨_, _, _, e⟩
  subst hgv
  have hB1 : Below w.heap.size w (w.alloc (.cells #[.int .u32 pc, .int .i64 many, .slice ao rs.length rc] 48)) := (Below.refl _ _).alloc (Nat.le_refl _) _
  have hck := checkP_any pe (E.stays hB1) (A.here.1.stays hB1) F pc many m0 m1
  rw [hP] at hck
  have HK : Hid (KIs mb w kb room v l) := K
  have HA : Hid (KHold mb w kb (.slice none 0 0) (fun W => RowsI W (.slice ao rs.length rc) rs ∧ IntsAt W (.slice ga gn gc) zs)) := A
  have HF : Hid (Few rs) := F
  have HR : Hid (∀ r ∈ rs, 0 < r.length) := planF_rows hP
  have HB1 : Hid (Below w.heap.size w (w.alloc (.cells #[.int .u32 pc, .int .i64 many, .slice ao rs.length rc] 48))) := hB1
  have zk := K.row.lt
  have B1c : ∀ j, j < 3 → (w.alloc (.cells #[.int .u32 pc, .int .i64 many, .slice ao rs.length rc] 48)).cell? ⟨w.heap.size, j, none⟩ = some (if j = 0 then .int .u32 pc else if j = 1 then .int .i64 many else .slice ao rs.length rc) := fun j hj => by
    rcases (by omega : j = 0 ∨ j = 1 ∨ j = 2) with rfl | rfl | rfl <;> simp
  have HC1 : Hid _ := B1c
  have zs1 : w.heap.size < (w.alloc (.cells #[.int .u32 pc, .int .i64 many, .slice ao rs.length rc] 48)).heap.size := by rw [World.size_alloc]; omega
  clear K A F hP E hB1 B1c
  go_enter Tryz.func10, Tryz.ntmps10
  go_wp2_with fail
  refine hck.mono ?_
  rintro e w2 ⟨⟨x0, rfl, hx0⟩, hb2⟩
  obtain rfl : x0 = .nilIface := by
    rcases hx0 with ⟨_, h⟩ | ⟨h, _⟩
    · rw [h]; rfl
    · simp at h
  have p0 := (hb2.cell (p := ⟨w.heap.size, 0, none⟩) zs1).trans (HC1.out 0 (by omega))
  have p1 := (hb2.cell (p := ⟨w.heap.size, 1, none⟩) zs1).trans (HC1.out 1 (by omega))
  have p2 := (hb2.cell (p := ⟨w.heap.size, 2, none⟩) zs1).trans (HC1.out 2 (by omega))
  simp only [if_true, Nat.reduceEqDiff, if_false] at p0 p1 p2
  have HB2 : Hid (Below w.heap.size w w2) := HB1.out.trans (hb2.mono HB1.out.size)
  have z2 : w.heap.size < w2.heap.size := by have := hb2.size; omega
  have hb3 : Below w2.heap.size w2 (w2.alloc (.cells #[.int .u32 pc] 34)) := (Below.refl _ _).alloc (Nat.le_refl _) _
  have hfa := isAt_any w2 pc
  have hcc : (w2.alloc (.cells #[.int .u32 pc] 34)).cell? ⟨w2.heap.size, 0, none⟩ = some (.int .u32 pc) := by simp
  have ht := take_any ((HK.out.row.stays HB2.out).stays hb3) (by omega) 46 (.inl rfl) w2.heap.size (fun x => decide (x.pc = pc)) (fun x hx W hW => isAt1_any ((hW.cell (p := ⟨w2.heap.size, 0, none⟩) (by rw [World.size_alloc]; exact Nat.lt_succ_self _)).trans hcc) x)
  have HB3 : Hid _ := hb3
  have CK2 : CkU w2 0 w.heap.size .nilIface pc many (.slice ao rs.length rc) ∨ True := .inr trivial
  have HP2 : Hid (w2.cell? ⟨w.heap.size, 0, none⟩ = some (.int .u32 pc) ∧ w2.cell? ⟨w.heap.size, 1, none⟩ = some (.int .i64 many) ∧ w2.cell? ⟨w.heap.size, 2, none⟩ = some (.slice ao rs.length rc)) := ⟨p0, p1, p2⟩
  clear hck hx0 hb2 hb3 hcc CK2 p1 p2 HC1
  go_wp2_with fail
  refine hfa.mono ?_
  rintro e w3 ⟨rfl, rfl⟩
  clear hfa
  go_wp2_with fail
  refine ht.mono ?_
  rintro e w4 ⟨tv, sv, rfl, hto, hk4, hap, hg4⟩
  obtain ⟨sa, sn, sc, hsv⟩ := own_slice hk4.own
  subst hsv
  have hB03 : Below w.heap.size w (w2.alloc (.cells #[.int .u32 pc] 34)) := HB2.out.trans (HB3.out.mono HB2.out.size)
  have hg04 : w.grownBy w4 (some kb) := grown_of hB03 hg4
  have hsvk : ∀ k, (Value.slice sa sn sc).ownBlock = some k → w.heap.size ≤ k := fun k e => Nat.le_trans hB03.size (hap k e).1
  have K4 : KIs mb w4 kb room (.slice sa sn sc) (l.filter (othK pc)) := ⟨hk4, fun x hx => (HK.out.one x (List.mem_filter.1 hx).1).next hg04.size (fun k h1 h2 _ _ => hg04.block k h1 (fun e => h2 (by injection e))) fun k e => .inr (hsvk k e)⟩
  have hA4 := HA.out w4 hg04.size (fun k h1 h2 _ _ => hg04.block k h1 (fun e => h2 (by injection e)))
  have hbx : ∀ j, w4.cell? ⟨w.heap.size, j, none⟩ = w2.cell? ⟨w.heap.size, j, none⟩ := fun j => by
    have h1 : w4.heap[w.heap.size]? = w2.heap[w.heap.size]? := (hg4.block w.heap.size (Nat.lt_of_lt_of_le z2 HB3.out.size) (fun e => by injection e; omega)).trans (HB3.out.block w.heap.size z2)
    exact World.cell?_of_block (a := ⟨w.heap.size, j, none⟩) h1
  have ck : CkU w4 kb w.heap.size (.slice sa sn sc) pc many (.slice ao rs.length rc) := ⟨hk4.c1, (hbx 0).trans HP2.out.1, (hbx 1).trans HP2.out.2.1, (hbx 2).trans HP2.out.2.2⟩
  have hd4 : Below w4.heap.size w4 w4.drew := (Below.refl _ _).drew
  have hco := copyOf_any (hA4.1.stays hd4) HF.out HR.out pc many
  have OK : Hid (∀ r ∈ rs, ∀ o ∈ r, o.ok) := hA4.1.ok
  have HI4 : Hid (IntsAt w4.drew (.slice ga gn gc) zs) := hA4.2.stays hd4
  have HK4 : Hid (KIs mb w4.drew kb room (.slice sa sn sc) (l.filter (othK pc))) := K4.stays hd4
  have HG4 : Hid (w.grownBy w4.drew (some kb)) := grown_to hg04 hd4
  have HSV : Hid (∀ k, (Value.slice sa sn sc).ownBlock = some k → w.heap.size ≤ k) := hsvk
  have HSW : Hid (∀ k, (Value.slice sa sn sc).ownBlock = some k → w.heap.size < k) := fun k e => by have h1 := (hap k e).1; rw [World.size_alloc] at h1; omega
  have hl1 : (l.filter (othK pc)).length ≤ 900 := Nat.le_trans (List.length_filter_le _ _) hl
  have z4 : kb < w4.heap.size := hk4.lt
  have HCK : Hid (CkU w4.drew kb w.heap.size (.slice sa sn sc) pc many (.slice ao rs.length rc)) := ck.stays hd4
  obtain ⟨c1, b0, b1, b2⟩ := id ck
  clear ht hto hk4 hap hg4 hB03 hg04 hsvk K4 hA4 hbx hd4 HP2 HB3 HB2 HB1 HA HK p0 HF HR
  go_wp2
  refine wp_region_phase 14 [(0, 0), (1, 0), (2, 0), (3, 0), (4, 1), (5, 1), (7, 0), (6, 2), (8, 2), (9, 2), (10, 2), (11, 2), (12, 0), (13, 0), (14, 2)] (fun W => CkU W kb w.heap.size (.slice sa sn sc) pc many (.slice ao rs.length rc)) (by kernel_rfl) (by kernel_rfl) (fun _ _ _ d _ h => by cases d <;> exact h) HCK.out ?_
  clear c1 b0 b1 b2 ck
  repeat (first | (refine wpPlanZ_free (by rfl) (by rfl) (fun W => by (go_simp; try with_reducible rfl)) (fun K hK => ?_); go_simp; refine hK _ ?_; clear hK K) | (refine wpPlanZ_quiet (by rfl) (by rfl) (fun W hW => by (obtain ⟨s0, s1, s2, s3⟩ := hW; go_simp; try with_reducible rfl)) (fun K hK => ?_); go_simp; refine hK _ ?_; clear hK K))
  refine wpPlanZ_serial (by rfl) (by rfl) (fun K hK => ?_)
  go_simp
  refine hco.mono ?_
  rintro e w5 ⟨v5, us, rfl, hr5, hb5⟩
  obtain ⟨xa, xn, xc, hv5⟩ := own_slice hr5.own
  subst hv5
  refine hK _ _ (fun _ => HCK.out.stays hb5) ?_
  have hri := rising_any (HI4.out.stays hb5) (by omega)
  have CK5 : Hid (CkU w5 kb w.heap.size (.slice sa sn sc) pc many (.slice ao rs.length rc)) := HCK.out.stays hb5
  have HR5 : Hid (RwK w4.drew.heap.size w5 (.slice xa xn xc) us rs) := hr5
  have HB5 : Hid (Below w4.drew.heap.size w4.drew w5) := hb5
  clear hK K hco hr5 hb5 HCK HI4
  refine wpPlanZ_serial (by rfl) (by rfl) (fun K hK => ?_)
  go_simp
  refine hri.mono ?_
  rintro e w6 ⟨v6, rfl, ho6, hb6⟩
  obtain ⟨ya, yn, yc, hv6⟩ := own_slice ho6
  subst hv6
  refine hK _ _ (fun _ => CK5.out.stays hb6) ?_
  have CK6 : Hid (CkU w6 kb w.heap.size (.slice sa sn sc) pc many (.slice ao rs.length rc)) := CK5.out.stays hb6
  have HO6 : Hid (OwnI w5.heap.size w6 (.slice ya yn yc) (rise zs)) := ho6
  have HB6 : Hid (Below w5.heap.size w5 w6) := hb6
  clear hK K hri ho6 hb6 CK5
  refine wpPlanZ_serial (by rfl) (by rfl) (fun K hK => ?_)
  go_simp
  refine hK _ _ (fun _ => CK6.out) ?_
  clear hK K
  refine wpPlanZ_serial (by rfl) (by rfl) (fun K hK => ?_)
  go_simp
  have hbA : Below w6.heap.size w6 (w6.alloc (.cells #[.int .u32 pc, .int .i64 many, .slice xa xn xc, .slice ya yn yc] 81)) := (Below.refl _ _).alloc (Nat.le_refl _) _
  refine hK _ _ (fun _ => CK6.out.stays hbA) ?_
  clear hK K
  obtain ⟨x, hxe⟩ : ∃ x : Kx, x = ⟨pc, many, xa, xn, xc, ya, yn, yc, rise zs, rs⟩ := ⟨_, rfl⟩
  have hkn : ∀ (k : Nat) (u : Value), [Value.int .u32 pc, .int .i64 many, .slice xa xn xc, .slice ya yn yc][k]? = some u → (w6.alloc (.cells #[.int .u32 pc, .int .i64 many, .slice xa xn xc, .slice ya yn yc] 81)).cell? ((⟨w6.heap.size, 0, none⟩ : Addr).add k) = some u := by
    have := kx_news w6 x
    rw [hxe] at this
    exact this
  have K6 := ((HK4.out.stays HB5.out).stays HB6.out).stays hbA
  have hbs : kb + 1 ≤ (w6.alloc (.cells #[.int .u32 pc, .int .i64 many, .slice xa xn xc, .slice ya yn yc] 81)).heap.size := K6.row.lt
  have HF7 : Hid (∀ v7 w7, w7.ownsRow (kb + 1) 81 4 v7 ((l.filter (othK pc)).length + 1) (kL (l.filter (othK pc)) ++ [.int .u32 pc, .int .i64 many, .slice xa xn xc, .slice ya yn yc]) → (w6.alloc (.cells #[.int .u32 pc, .int .i64 many, .slice xa xn xc, .slice ya yn yc] 81)).grownBy w7 (Value.slice sa sn sc).ownBlock → Moved (w6.alloc (.cells #[.int .u32 pc, .int .i64 many, .slice xa xn xc, .slice ya yn yc] 81)) (.slice sa sn sc) v7 → KIs mb (w7.setCell ⟨kb, 1, none⟩ v7) kb room v7 (l.filter (othK pc) ++ [x]) ∧ w.grownBy (w7.setCell ⟨kb, 1, none⟩ v7) (some kb) ∧ (∀ k, v7.ownBlock = some k → w.heap.size ≤ k) ∧ w7.frozen? ⟨kb, 1, none⟩ = false ∧ CkU w7 kb w.heap.size (.slice sa sn sc) pc many (.slice ao rs.length rc) ∧ kb < w7.heap.size) := fun v7 w7 h1 h2 h3 => by
    have CKA := CK6.out.stays hbA
    have hpb : w7.heap[w.heap.size]? = (w6.alloc (.cells #[.int .u32 pc, .int .i64 many, .slice xa xn xc, .slice ya yn yc] 81)).heap[w.heap.size]? := h2.block w.heap.size (World.block_lt_of_cell? _ _ CKA.b0) (fun e => by have := HSW.out w.heap.size e.symm; omega)
    have hpe := put_end (x := x) HK4.out HG4.out HSV.out (by have := HG4.out.size; omega) HB5.out (by rw [hxe]; exact HR5.out) (by rw [hxe]; exact OK.out) HB6.out (by rw [hxe]; exact HO6.out) (by rw [hxe]) (by rw [hxe]) hbA (by rw [hxe]; exact h1) h2 h3
    have hkb : w7.heap[kb]? = (w6.alloc (.cells #[.int .u32 pc, .int .i64 many, .slice xa xn xc, .slice ya yn yc] 81)).heap[kb]? := h2.block kb K6.row.lt (fun e => by have := (own_lt K6.row.own kb e.symm).2; omega)
    exact ⟨hpe.1, hpe.2.1, hpe.2.2, (World.frozen?_of_block (a := ⟨kb, 1, none⟩) hkb).trans (K6.row.fz 1), ⟨(World.cell?_of_block (a := ⟨kb, 1, none⟩) hkb).trans K6.row.c1, (World.cell?_of_block (a := ⟨w.heap.size, 0, none⟩) hpb).trans CKA.b0, (World.cell?_of_block (a := ⟨w.heap.size, 1, none⟩) hpb).trans CKA.b1, (World.cell?_of_block (a := ⟨w.heap.size, 2, none⟩) hpb).trans CKA.b2⟩, by have := h2.size; omega⟩
  have HO4 : Hid ((w6.alloc (.cells #[.int .u32 pc, .int .i64 many, .slice xa xn xc, .slice ya yn yc] 81)).ownsRow (kb + 1) 81 4 (.slice sa sn sc) (l.filter (othK pc)).length (kL (l.filter (othK pc)))) := K6.row.own
  have hone : ∀ u ∈ [Value.int .u32 pc, .int .i64 many, .slice xa xn xc, .slice ya yn yc], u.oneCell' = true := by simp [Value.oneCell']
  clear K6 HK4 HG4 HSV HSW HB5 HR5 HB6 HO6 OK CK6 hbA
  refine wpPlanZ_serial (by rfl) (by rfl) (fun K hK => ?_)
  refine oper_append_movedK _ _ 65 rfl (kb + 1) 81 i0 _ 4 64 Tryz.underlying65 hi iz0 iz1 iz2 rfl (by decide) (.slice sa sn sc) _ _ rfl HO4.out ⟨w6.heap.size, 0, none⟩ 1 1 [.int .u32 pc, .int .i64 many, .slice xa xn xc, .slice ya yn yc] rfl rfl hkn hone (by unfold maxLen; omega) (by omega) hbs ?_
  intro v7 w7 ho7 hg7 hm7
  have FF := HF7.out v7 w7 ho7 hg7 hm7
  obtain ⟨g7, cap7, hv7⟩ := own_pos ho7
  subst hv7
  obtain ⟨K8, G8, V8, f7, CK7, z7⟩ := FF
  refine hK _ _ (fun _ => CK7) ?_
  clear hK K HF7 HO4 hkn hone hbs ho7 hg7 hm7
  repeat (refine wpPlanZ_free (by rfl) (by rfl) (fun W => by (go_simp; try with_reducible rfl)) (fun K hK => ?_); go_simp; refine hK _ ?_; clear hK K)
  have k7 := CK7.a
  refine wpPlanZ_serial (by rfl) (by rfl) (fun K hK => ?_)
  go_simp
  refine hK _ _ (fun h => absurd h (by decide)) ?_
  clear hK K
  refine wpPlanZ_nil ?_
  clear k7 CK7 f7 z7
  generalize w7.setCell ⟨kb, 1, none⟩ (.slice (some ⟨g7, 0, none⟩) ((l.filter (othK pc)).length + 1) cap7) = w8 at *
  have hg7l := V8 g7 rfl
  have c1 := K8.row.c1
  have c0 := K8.row.c0
  have z8 := K8.row.lt
  have hd8 : Below w8.heap.size w8 w8.drew := (Below.refl _ _).drew
  have HK8 : Hid (KIs mb w8.drew kb room (.slice (some ⟨g7, 0, none⟩) ((l.filter (othK pc)).length + 1) cap7) (l.filter (othK pc) ++ [x])) := K8.stays hd8
  have HG8 : Hid (w.grownBy w8.drew (some kb)) := grown_to G8 hd8
  have HX : Hid (x.pc = pc ∧ x.many = many ∧ x.zs = rise zs ∧ x.rs = rs) := by rw [hxe]; exact ⟨rfl, rfl, rfl, rfl⟩
  clear K8 G8 V8 hd8 hxe
  go_wp2
  refine wp_region_phase 10 [(0, 0), (1, 0), (2, 0), (3, 1), (4, 0), (5, 0), (6, 0), (7, 0), (8, 1), (9, 0)] (fun W => W.cell? ⟨kb, 1, none⟩ = some (.slice (some ⟨g7, 0, none⟩) ((l.filter (othK pc)).length + 1) cap7) ∧ W.cell? ⟨kb, 0, none⟩ = some (.int .i64 room)) (by kernel_rfl) (by kernel_rfl) (fun _ _ _ d _ h => by cases d <;> exact h) ⟨by simpa using c1, by simpa using c0⟩ ?_
  repeat (first | (refine wpPlanZ_free (by rfl) (by rfl) (fun W => by (go_simp; try with_reducible rfl)) (fun K hK => ?_); go_simp; refine hK _ ?_; clear hK K) | (refine wpPlanZ_quiet (by rfl) (by rfl) (fun W hW => by (obtain ⟨s0, s1⟩ := hW; go_simp; try with_reducible rfl)) (fun K hK => ?_); go_simp; refine hK _ ?_; clear hK K))
  refine wpPlanZ_nil ?_
  obtain ⟨l1, hl1e⟩ : ∃ l1, l.filter (othK pc) = l1 := ⟨_, rfl⟩
  rw [hl1e] at HK8 hl1 c1 ⊢
  have HL1 : Hid (l.filter (othK pc) = l1) := hl1e
  clear hl1e
  by_cases hrm : room < (l1.length : Int) + 1
  · obtain ⟨y, r, hyr⟩ : ∃ y r, l1 ++ [x] = y :: r := by cases h : l1 ++ [x] with
      | nil => simp at h
      | cons y r => exact ⟨y, r, rfl⟩
    have hrl : r.length = l1.length := by have := congrArg List.length hyr; simpa using this.symm
    have HCU : Hid (cutK room (l1 ++ [x]) = r) := by show _ = _; unfold cutK; rw [if_pos (by simp; omega), hyr]; rfl
    have K8 := HK8.out
    rw [hyr, ← hrl] at K8
    have hde := delete_any K8.row.own (by omega)
    have q1 := K8.row.c1
    have HD : Hid (∀ w9, _ → _ → _) := fun w9 h1 h2 => del_end (w9 := w9) K8 HG8.out hg7l h1 h2
    have HZ : Hid (∀ w9, w8.drew.grownBy w9 (some g7) → w9.frozen? ⟨kb, 1, none⟩ = false ∧ w9.cell? ⟨kb, 1, none⟩ = some (.slice (some ⟨g7, 0, none⟩) (r.length + 1) cap7) ∧ kb < w9.heap.size) := fun w9 h => by
      have hkb : w9.heap[kb]? = w8.drew.heap[kb]? := h.block kb K8.row.lt (fun e => by have h1 := (own_lt K8.row.own g7 rfl).2; injection e; omega)
      exact ⟨(World.frozen?_of_block (a := ⟨kb, 1, none⟩) hkb).trans (K8.row.fz 1), (World.cell?_of_block (a := ⟨kb, 1, none⟩) hkb).trans K8.row.c1, by have := h.size; have := K8.row.lt; omega⟩
    have hn1 : l1.length = r.length := hrl.symm
    clear K8 HK8 HG8 hyr c1 c0
    rw [hn1] at hrm ⊢
    clear hn1 hrl
    go_wp2_with fail
    refine hde.mono ?_
    rintro e w9 ⟨rfl, ho9, hg9⟩
    have KE := HD.out w9 ho9 hg9
    obtain ⟨f9, k9, z9⟩ := HZ.out w9 hg9
    have HKE : Hid (KIs mb (w9.setCell ⟨kb, 1, none⟩ (.slice (some ⟨g7, 0, none⟩) r.length cap7)) kb room (.slice (some ⟨g7, 0, none⟩) r.length cap7) r ∧ w.grownBy (w9.setCell ⟨kb, 1, none⟩ (.slice (some ⟨g7, 0, none⟩) r.length cap7)) (some kb)) := KE
    clear HD HZ KE ho9 hg9 hde q1
    go_wp2
    go_ret
    exact ⟨x, _, rfl, HX.out, by rw [HL1.out, HCU.out]; exact HKE.out.1, HKE.out.2⟩
  · have HCU : Hid (cutK room (l1 ++ [x]) = l1 ++ [x]) := by show _ = _; unfold cutK; rw [if_neg (by simp; omega)]
    clear c1 c0
    go_wp2
    go_ret
    exact ⟨x, _, rfl, HX.out, by rw [HL1.out, HCU.out]; exact HK8.out, HG8.out⟩
end Go.Proofs.YtcccaejjhodnkabGreatDoor
